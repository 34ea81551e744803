/- What the proof of PrfTreePut rests on, part 11 of 11. -/
import Derived.Test.YtcgedpfolloinaaGreatPPrfTreePut10
namespace Go.Proofs.YtcgedpfolloinaaGreat
open Go.RowKit

set_option maxRecDepth 100000 in
set_option maxHeartbeats 8000000 in
theorem tput_unfit1 (f : Fo) (v : Value) (th : Hd) (tk : Fo) (va vk : Value) (a b : Int) (w : World) (hl : Lies w v f) (ha : AttrsLie w va th.ats) (hk : Lies w vk tk)
    (hf : fitB f = false) : Calls Tryz.prog 8 #[v, treeA th va vk, .int .u16 a, .int .u16 b] w fun e w' => e = .returned (.bool true) ∧ Below w.heap.size w w' := by
  have GR := Lib.hid (fun w => grown_any w)
  have FF := Lib.hid (fun W (hW : Below w.heap.size w W) => fit_any f v W (lies_below hl hW))
  have FT := Lib.hid (fun W y (h : Lies W y (.cons th tk .nil)) => fit_any (.cons th tk .nil) y W h)
  have HA := Lib.hid ha
  have HK := Lib.hid hk
  have BX0 := Below.refl w.heap.size w
  obtain ⟨av, cv, rfl⟩ := lies_form hl
  obtain ⟨aa0, ca0, rfl⟩ := attrs_form ha
  obtain ⟨ak0, ck0, rfl⟩ := lies_form hk
  unfold treeA
  rw [hf] at FF
  clear hl ha hk hf
  go_enter Tryz.func8, Tryz.ntmps8
  go_upto_region 1 with fail
  have kk := World.alloc_heap_new w (.cells #[.int .i64 th.k, .string ⟨th.l.toArray⟩, .slice aa0 th.ats.length ca0, .int .i64 th.n, .int .i64 th.d, .string ⟨th.x.toArray⟩, .slice ak0 tk.len ck0] 43)
  have hb1 : Below w.heap.size w (w.alloc (.cells #[.int .i64 th.k, .string ⟨th.l.toArray⟩, .slice aa0 th.ats.length ca0, .int .i64 th.n, .int .i64 th.d, .string ⟨th.x.toArray⟩, .slice ak0 tk.len ck0] 43)) := (Below.refl _ _).alloc (Nat.le_refl _) _
  have zt0 : w.heap.size < (w.alloc (.cells #[.int .i64 th.k, .string ⟨th.l.toArray⟩, .slice aa0 th.ats.length ca0, .int .i64 th.n, .int .i64 th.d, .string ⟨th.x.toArray⟩, .slice ak0 tk.len ck0] 43)).heap.size := by simp
  generalize w.alloc (.cells #[.int .i64 th.k, .string ⟨th.l.toArray⟩, .slice aa0 th.ats.length ca0, .int .i64 th.n, .int .i64 th.d, .string ⟨th.x.toArray⟩, .slice ak0 tk.len ck0] 43) = X1 at *
  have BX1 : Below w.heap.size w X1 := hb1
  have Kt0 := Lib.hid kk
  clear kk
  have HA := Lib.hid (attrs_below HA.out hb1)
  have HK := Lib.hid (lies_below HK.out hb1)
  obtain ⟨t0, ht⟩ : ∃ t, t = w.heap.size := ⟨_, rfl⟩
  rw [← ht] at Kt0 zt0
  have hpp : (Value.pointer (some ⟨w.heap.size, 0, none⟩)) = .pointer (some ⟨t0, 0, none⟩) := by rw [ht]
  rw [hpp]
  clear hpp ht hb1
  go_wp2_with fail
  refine (FF.out X1 BX1).mono ?_
  rintro e X2 ⟨rfl, hb2⟩
  have BX2 : Below w.heap.size w X2 := BX1.trans (hb2.mono BX1.size)
  have HA := Lib.hid (attrs_below HA.out hb2)
  have HK := Lib.hid (lies_below HK.out hb2)
  have Kt0 := Lib.hid ((hb2.block _ zt0).trans Kt0.out)
  have zt0 := Nat.lt_of_lt_of_le zt0 hb2.size
  clear hb2
  go_wp2_with fail
  refine (GR.out _).mono ?_
  rintro e X3 ⟨rfl, hb3⟩
  have BX3 : Below w.heap.size w X3 := BX2.trans (hb3.mono BX2.size)
  have HA := Lib.hid (attrs_below HA.out hb3)
  have HK := Lib.hid (lies_below HK.out hb3)
  have Kt0 := Lib.hid ((hb3.block _ zt0).trans Kt0.out)
  have zt0 := Nat.lt_of_lt_of_le zt0 hb3.size
  clear hb3
  go_wp2_with fail
  go_ret
  exact ⟨rfl, BX3⟩

set_option maxRecDepth 100000 in
set_option maxHeartbeats 8000000 in
theorem tput_unfit2 (f : Fo) (v : Value) (th : Hd) (tk : Fo) (va vk : Value) (a b : Int) (w : World) (hl : Lies w v f) (ha : AttrsLie w va th.ats) (hk : Lies w vk tk)
    (hf : fitB f = true) (hf2 : fitB (.cons th tk .nil) = false) : Calls Tryz.prog 8 #[v, treeA th va vk, .int .u16 a, .int .u16 b] w fun e w' => e = .returned (.bool true) ∧ Below w.heap.size w w' := by
  have GR := Lib.hid (fun w => grown_any w)
  have FF := Lib.hid (fun W (hW : Below w.heap.size w W) => fit_any f v W (lies_below hl hW))
  have FT := Lib.hid (fun W y (h : Lies W y (.cons th tk .nil)) => fit_any (.cons th tk .nil) y W h)
  have HA := Lib.hid ha
  have HK := Lib.hid hk
  have BX0 := Below.refl w.heap.size w
  obtain ⟨av, cv, rfl⟩ := lies_form hl
  obtain ⟨aa0, ca0, rfl⟩ := attrs_form ha
  obtain ⟨ak0, ck0, rfl⟩ := lies_form hk
  unfold treeA
  rw [hf] at FF
  rw [hf2] at FT
  clear hl ha hk hf hf2
  go_enter Tryz.func8, Tryz.ntmps8
  go_upto_region 1 with fail
  have kk := World.alloc_heap_new w (.cells #[.int .i64 th.k, .string ⟨th.l.toArray⟩, .slice aa0 th.ats.length ca0, .int .i64 th.n, .int .i64 th.d, .string ⟨th.x.toArray⟩, .slice ak0 tk.len ck0] 43)
  have hb1 : Below w.heap.size w (w.alloc (.cells #[.int .i64 th.k, .string ⟨th.l.toArray⟩, .slice aa0 th.ats.length ca0, .int .i64 th.n, .int .i64 th.d, .string ⟨th.x.toArray⟩, .slice ak0 tk.len ck0] 43)) := (Below.refl _ _).alloc (Nat.le_refl _) _
  have zt0 : w.heap.size < (w.alloc (.cells #[.int .i64 th.k, .string ⟨th.l.toArray⟩, .slice aa0 th.ats.length ca0, .int .i64 th.n, .int .i64 th.d, .string ⟨th.x.toArray⟩, .slice ak0 tk.len ck0] 43)).heap.size := by simp
  generalize w.alloc (.cells #[.int .i64 th.k, .string ⟨th.l.toArray⟩, .slice aa0 th.ats.length ca0, .int .i64 th.n, .int .i64 th.d, .string ⟨th.x.toArray⟩, .slice ak0 tk.len ck0] 43) = X1 at *
  have BX1 : Below w.heap.size w X1 := hb1
  have Kt0 := Lib.hid kk
  clear kk
  have HA := Lib.hid (attrs_below HA.out hb1)
  have HK := Lib.hid (lies_below HK.out hb1)
  obtain ⟨t0, ht⟩ : ∃ t, t = w.heap.size := ⟨_, rfl⟩
  rw [← ht] at Kt0 zt0
  have hpp : (Value.pointer (some ⟨w.heap.size, 0, none⟩)) = .pointer (some ⟨t0, 0, none⟩) := by rw [ht]
  rw [hpp]
  clear hpp ht hb1
  go_wp2_with fail
  refine (FF.out X1 BX1).mono ?_
  rintro e X2 ⟨rfl, hb2⟩
  have BX2 : Below w.heap.size w X2 := BX1.trans (hb2.mono BX1.size)
  have HA := Lib.hid (attrs_below HA.out hb2)
  have HK := Lib.hid (lies_below HK.out hb2)
  have Kt0 := Lib.hid ((hb2.block _ zt0).trans Kt0.out)
  have zt0 := Nat.lt_of_lt_of_le zt0 hb2.size
  clear hb2
  have d0 : X2.cell? ⟨t0, 0, none⟩ = some (.int .i64 th.k) := cell_of_block Kt0.out rfl
  have d1 : X2.cell? ⟨t0, 1, none⟩ = some (.string ⟨th.l.toArray⟩) := cell_of_block Kt0.out rfl
  have d2 : X2.cell? ⟨t0, 2, none⟩ = some (.slice aa0 th.ats.length ca0) := cell_of_block Kt0.out rfl
  have d3 : X2.cell? ⟨t0, 3, none⟩ = some (.int .i64 th.n) := cell_of_block Kt0.out rfl
  have d4 : X2.cell? ⟨t0, 4, none⟩ = some (.int .i64 th.d) := cell_of_block Kt0.out rfl
  have d5 : X2.cell? ⟨t0, 5, none⟩ = some (.string ⟨th.x.toArray⟩) := cell_of_block Kt0.out rfl
  have d6 : X2.cell? ⟨t0, 6, none⟩ = some (.slice ak0 tk.len ck0) := cell_of_block Kt0.out rfl
  have kk := World.alloc_heap_new X2 (.cells #[.int .i64 th.k, .string ⟨th.l.toArray⟩, .slice aa0 th.ats.length ca0, .int .i64 th.n, .int .i64 th.d, .string ⟨th.x.toArray⟩, .slice ak0 tk.len ck0] 43)
  have hb3 : Below X2.heap.size X2 (X2.alloc (.cells #[.int .i64 th.k, .string ⟨th.l.toArray⟩, .slice aa0 th.ats.length ca0, .int .i64 th.n, .int .i64 th.d, .string ⟨th.x.toArray⟩, .slice ak0 tk.len ck0] 43)) := (Below.refl _ _).alloc (Nat.le_refl _) _
  have HA := Lib.hid (attrs_below HA.out hb3)
  have HK := Lib.hid (lies_below HK.out hb3)
  have Kt0 := Lib.hid ((hb3.block _ zt0).trans Kt0.out)
  have zt0 := Nat.lt_of_lt_of_le zt0 hb3.size
  have LT := Lib.hid (lies_one kk HA.out HK.out)
  have BX3 : Below w.heap.size w (X2.alloc (.cells #[.int .i64 th.k, .string ⟨th.l.toArray⟩, .slice aa0 th.ats.length ca0, .int .i64 th.n, .int .i64 th.d, .string ⟨th.x.toArray⟩, .slice ak0 tk.len ck0] 43)) := BX2.trans (hb3.mono BX2.size)
  clear kk hb3
  go_wp2_with fail
  generalize X2.alloc (.cells #[.int .i64 th.k, .string ⟨th.l.toArray⟩, .slice aa0 th.ats.length ca0, .int .i64 th.n, .int .i64 th.d, .string ⟨th.x.toArray⟩, .slice ak0 tk.len ck0] 43) = X3 at *
  clear d0 d1 d2 d3 d4 d5 d6

  refine (FT.out X3 _ LT.out).mono ?_
  rintro e X4 ⟨rfl, hb4⟩
  have BX4 : Below w.heap.size w X4 := BX3.trans (hb4.mono BX3.size)
  have HA := Lib.hid (attrs_below HA.out hb4)
  have HK := Lib.hid (lies_below HK.out hb4)
  have Kt0 := Lib.hid ((hb4.block _ zt0).trans Kt0.out)
  have zt0 := Nat.lt_of_lt_of_le zt0 hb4.size
  clear LT
  clear hb4
  go_wp2_with fail
  refine (GR.out _).mono ?_
  rintro e X5 ⟨rfl, hb5⟩
  have BX5 : Below w.heap.size w X5 := BX4.trans (hb5.mono BX4.size)
  have HA := Lib.hid (attrs_below HA.out hb5)
  have HK := Lib.hid (lies_below HK.out hb5)
  have Kt0 := Lib.hid ((hb5.block _ zt0).trans Kt0.out)
  have zt0 := Nat.lt_of_lt_of_le zt0 hb5.size
  clear hb5
  go_wp2_with fail
  go_ret
  exact ⟨rfl, BX5⟩

set_option maxRecDepth 100000 in
set_option maxHeartbeats 8000000 in
theorem tput_none (f : Fo) (v : Value) (th : Hd) (tk : Fo) (va vk : Value) (a b : Int) (w : World) (hl : Lies w v f) (ha : AttrsLie w va th.ats) (hk : Lies w vk tk)
    (hf : fitB f = true) (hf2 : fitB (.cons th tk .nil) = true) (hlen : f.len = 0) : Calls Tryz.prog 8 #[v, treeA th va vk, .int .u16 a, .int .u16 b] w fun e w' => e = .returned (.bool true) ∧ Below w.heap.size w w' := by
  have GR := Lib.hid (fun w => grown_any w)
  have FF := Lib.hid (fun W (hW : Below w.heap.size w W) => fit_any f v W (lies_below hl hW))
  have FT := Lib.hid (fun W y (h : Lies W y (.cons th tk .nil)) => fit_any (.cons th tk .nil) y W h)
  have HA := Lib.hid ha
  have HK := Lib.hid hk
  have BX0 := Below.refl w.heap.size w
  obtain ⟨av, cv, rfl⟩ := lies_form hl
  obtain ⟨aa0, ca0, rfl⟩ := attrs_form ha
  obtain ⟨ak0, ck0, rfl⟩ := lies_form hk
  unfold treeA
  rw [hf] at FF
  rw [hf2] at FT
  have eZ : ((f.len : Int) == 0) = true := by simp; omega
  clear hlen
  clear hl ha hk hf hf2
  go_enter Tryz.func8, Tryz.ntmps8
  go_upto_region 1 with fail
  have kk := World.alloc_heap_new w (.cells #[.int .i64 th.k, .string ⟨th.l.toArray⟩, .slice aa0 th.ats.length ca0, .int .i64 th.n, .int .i64 th.d, .string ⟨th.x.toArray⟩, .slice ak0 tk.len ck0] 43)
  have hb1 : Below w.heap.size w (w.alloc (.cells #[.int .i64 th.k, .string ⟨th.l.toArray⟩, .slice aa0 th.ats.length ca0, .int .i64 th.n, .int .i64 th.d, .string ⟨th.x.toArray⟩, .slice ak0 tk.len ck0] 43)) := (Below.refl _ _).alloc (Nat.le_refl _) _
  have zt0 : w.heap.size < (w.alloc (.cells #[.int .i64 th.k, .string ⟨th.l.toArray⟩, .slice aa0 th.ats.length ca0, .int .i64 th.n, .int .i64 th.d, .string ⟨th.x.toArray⟩, .slice ak0 tk.len ck0] 43)).heap.size := by simp
  generalize w.alloc (.cells #[.int .i64 th.k, .string ⟨th.l.toArray⟩, .slice aa0 th.ats.length ca0, .int .i64 th.n, .int .i64 th.d, .string ⟨th.x.toArray⟩, .slice ak0 tk.len ck0] 43) = X1 at *
  have BX1 : Below w.heap.size w X1 := hb1
  have Kt0 := Lib.hid kk
  clear kk
  have HA := Lib.hid (attrs_below HA.out hb1)
  have HK := Lib.hid (lies_below HK.out hb1)
  obtain ⟨t0, ht⟩ : ∃ t, t = w.heap.size := ⟨_, rfl⟩
  rw [← ht] at Kt0 zt0
  have hpp : (Value.pointer (some ⟨w.heap.size, 0, none⟩)) = .pointer (some ⟨t0, 0, none⟩) := by rw [ht]
  rw [hpp]
  clear hpp ht hb1
  go_wp2_with fail
  refine (FF.out X1 BX1).mono ?_
  rintro e X2 ⟨rfl, hb2⟩
  have BX2 : Below w.heap.size w X2 := BX1.trans (hb2.mono BX1.size)
  have HA := Lib.hid (attrs_below HA.out hb2)
  have HK := Lib.hid (lies_below HK.out hb2)
  have Kt0 := Lib.hid ((hb2.block _ zt0).trans Kt0.out)
  have zt0 := Nat.lt_of_lt_of_le zt0 hb2.size
  clear hb2
  have d0 : X2.cell? ⟨t0, 0, none⟩ = some (.int .i64 th.k) := cell_of_block Kt0.out rfl
  have d1 : X2.cell? ⟨t0, 1, none⟩ = some (.string ⟨th.l.toArray⟩) := cell_of_block Kt0.out rfl
  have d2 : X2.cell? ⟨t0, 2, none⟩ = some (.slice aa0 th.ats.length ca0) := cell_of_block Kt0.out rfl
  have d3 : X2.cell? ⟨t0, 3, none⟩ = some (.int .i64 th.n) := cell_of_block Kt0.out rfl
  have d4 : X2.cell? ⟨t0, 4, none⟩ = some (.int .i64 th.d) := cell_of_block Kt0.out rfl
  have d5 : X2.cell? ⟨t0, 5, none⟩ = some (.string ⟨th.x.toArray⟩) := cell_of_block Kt0.out rfl
  have d6 : X2.cell? ⟨t0, 6, none⟩ = some (.slice ak0 tk.len ck0) := cell_of_block Kt0.out rfl
  have kk := World.alloc_heap_new X2 (.cells #[.int .i64 th.k, .string ⟨th.l.toArray⟩, .slice aa0 th.ats.length ca0, .int .i64 th.n, .int .i64 th.d, .string ⟨th.x.toArray⟩, .slice ak0 tk.len ck0] 43)
  have hb3 : Below X2.heap.size X2 (X2.alloc (.cells #[.int .i64 th.k, .string ⟨th.l.toArray⟩, .slice aa0 th.ats.length ca0, .int .i64 th.n, .int .i64 th.d, .string ⟨th.x.toArray⟩, .slice ak0 tk.len ck0] 43)) := (Below.refl _ _).alloc (Nat.le_refl _) _
  have HA := Lib.hid (attrs_below HA.out hb3)
  have HK := Lib.hid (lies_below HK.out hb3)
  have Kt0 := Lib.hid ((hb3.block _ zt0).trans Kt0.out)
  have zt0 := Nat.lt_of_lt_of_le zt0 hb3.size
  have LT := Lib.hid (lies_one kk HA.out HK.out)
  have BX3 : Below w.heap.size w (X2.alloc (.cells #[.int .i64 th.k, .string ⟨th.l.toArray⟩, .slice aa0 th.ats.length ca0, .int .i64 th.n, .int .i64 th.d, .string ⟨th.x.toArray⟩, .slice ak0 tk.len ck0] 43)) := BX2.trans (hb3.mono BX2.size)
  clear kk hb3
  go_wp2_with fail
  generalize X2.alloc (.cells #[.int .i64 th.k, .string ⟨th.l.toArray⟩, .slice aa0 th.ats.length ca0, .int .i64 th.n, .int .i64 th.d, .string ⟨th.x.toArray⟩, .slice ak0 tk.len ck0] 43) = X3 at *
  clear d0 d1 d2 d3 d4 d5 d6

  refine (FT.out X3 _ LT.out).mono ?_
  rintro e X4 ⟨rfl, hb4⟩
  have BX4 : Below w.heap.size w X4 := BX3.trans (hb4.mono BX3.size)
  have HA := Lib.hid (attrs_below HA.out hb4)
  have HK := Lib.hid (lies_below HK.out hb4)
  have Kt0 := Lib.hid ((hb4.block _ zt0).trans Kt0.out)
  have zt0 := Nat.lt_of_lt_of_le zt0 hb4.size
  clear LT
  clear hb4
  go_wp2_with fail
  refine (GR.out _).mono ?_
  rintro e X5 ⟨rfl, hb5⟩
  have BX5 : Below w.heap.size w X5 := BX4.trans (hb5.mono BX4.size)
  have HA := Lib.hid (attrs_below HA.out hb5)
  have HK := Lib.hid (lies_below HK.out hb5)
  have Kt0 := Lib.hid ((hb5.block _ zt0).trans Kt0.out)
  have zt0 := Nat.lt_of_lt_of_le zt0 hb5.size
  clear hb5
  go_wp2_with fail
  go_ret
  exact ⟨rfl, BX5⟩

set_option maxRecDepth 100000 in
set_option maxHeartbeats 8000000 in
theorem tput_err4 (f : Fo) (v : Value) (th : Hd) (tk : Fo) (va vk : Value) (a b : Nat) (w : World) (hl : Lies w v f) (ha : AttrsLie w va th.ats) (hk : Lies w vk tk) (ka kb : Nat) (x y : Vis) (hf : fitB f = true) (hf2 : fitB (.cons th tk .nil) = true) (hlen : f.len ≠ 0) (hma : a ≤ 65535) (hmb : b ≤ 65535) (hx : (seqAt [] 0 f)[ka]? = some x) (hy : (seqAt [] 0 f)[kb]? = some y) (hka : Int.tmod (a : Int) (f.size : Int) = (ka : Int)) (hkb : Int.tmod (b : Int) (f.size : Int) = (kb : Int))
    (hbe : (putV f (pathInts x.p) (.cons th tk .nil)) = (.nil, 4)) :
    Calls Tryz.prog 8 #[v, treeA th va vk, .int .u16 (a : Int), .int .u16 (b : Int)] w fun e w' => e = .returned (.bool true) ∧ Below w.heap.size w w' := by
  have GR := Lib.hid (fun w => grown_any w)
  have FF := Lib.hid (fun W (hW : Below w.heap.size w W) => fit_any f v W (lies_below hl hW))
  have FT := Lib.hid (fun W y (h : Lies W y (.cons th tk .nil)) => fit_any (.cons th tk .nil) y W h)
  have HA := Lib.hid ha
  have HK := Lib.hid hk
  have BX0 := Below.refl w.heap.size w
  obtain ⟨av, cv, rfl⟩ := lies_form hl
  obtain ⟨aa0, ca0, rfl⟩ := attrs_form ha
  obtain ⟨ak0, ck0, rfl⟩ := lies_form hk
  unfold treeA
  have h0 := (fit_parts hf).2
  have t0 := (fit_parts hf2).2
  have hs := small_ok h0
  have ts := small_ok t0
  rw [hf] at FF
  rw [hf2] at FT
  obtain ⟨q, i, g, ep, hg, hn⟩ := vis_split (List.mem_of_getElem? hx)
  have xm := List.mem_of_getElem? hx
  have ym := List.mem_of_getElem? hy
  obtain ⟨pv1, pv2⟩ := put_vals h0 t0 hg hn
  rw [← ep] at pv1 pv2
  have px := path_len xm
  have py := path_len ym
  have hsz := hs.size
  simp only [List.length_nil, Nat.zero_add] at px py
  have hpx : x.p.length ≤ 1000000 := by omega
  have hpy : y.p.length ≤ 1000000 := by omega
  have CX := Lib.hid (fun W (hW : Below w.heap.size w W) => chosen_any f _ a ka x W (lies_below hl hW) hs.size hma hx hka)
  have CY := Lib.hid (fun W (hW : Below w.heap.size w W) => chosen_any f _ b kb y W (lies_below hl hW) hs.size hmb hy hkb)
  have AX := Lib.hid (fun W (hW : Below w.heap.size w W) pv (hp : IntsLie W pv (pathInts x.p)) => (at_any f (pathInts x.p) _ pv W (lies_below hl hW) hs hp (by simpa using hpx)).mono fun _ _ h => at_ok (at_val h0 xm) (place_at xm) h)
  have AY := Lib.hid (fun W (hW : Below w.heap.size w W) pv (hp : IntsLie W pv (pathInts y.p)) => (at_any f (pathInts y.p) _ pv W (lies_below hl hW) hs hp (by simpa using hpy)).mono fun _ _ h => at_ok (at_val h0 ym) (place_at ym) h)
  have PU := Lib.hid (fun W (hW : Below w.heap.size w W) pv aa ca ak ck (hp : IntsLie W pv (pathInts x.p)) (h1 : AttrsLie W (.slice aa th.ats.length ca) th.ats) (h2 : Lies W (.slice ak tk.len ck) tk) => tput_any f (pathInts x.p) th tk _ pv aa ca ak ck W (lies_below hl hW) hp (by simpa using hpx) h1 h2 hs ts)
  rw [pv1] at PU
  unfold aggOf at PU
  rw [pv1] at hbe
  rw [hbe] at PU
  have eZ : ((f.len : Int) == 0) = false := by simp; omega
  clear hl ha hk hf hf2 hx hy h0 t0 hs ts px py hsz hpx hpy hka hkb hma hmb hlen xm ym pv1 pv2 hg hn ep hbe
  generalize changeAt f q (setK g i th tk) = G at *
  generalize x.p = xp at *
  generalize x.h = xh at *
  generalize x.ks = xk at *
  go_enter Tryz.func8, Tryz.ntmps8
  go_upto_region 1 with fail
  have kk := World.alloc_heap_new w (.cells #[.int .i64 th.k, .string ⟨th.l.toArray⟩, .slice aa0 th.ats.length ca0, .int .i64 th.n, .int .i64 th.d, .string ⟨th.x.toArray⟩, .slice ak0 tk.len ck0] 43)
  have hb1 : Below w.heap.size w (w.alloc (.cells #[.int .i64 th.k, .string ⟨th.l.toArray⟩, .slice aa0 th.ats.length ca0, .int .i64 th.n, .int .i64 th.d, .string ⟨th.x.toArray⟩, .slice ak0 tk.len ck0] 43)) := (Below.refl _ _).alloc (Nat.le_refl _) _
  have zt0 : w.heap.size < (w.alloc (.cells #[.int .i64 th.k, .string ⟨th.l.toArray⟩, .slice aa0 th.ats.length ca0, .int .i64 th.n, .int .i64 th.d, .string ⟨th.x.toArray⟩, .slice ak0 tk.len ck0] 43)).heap.size := by simp
  generalize w.alloc (.cells #[.int .i64 th.k, .string ⟨th.l.toArray⟩, .slice aa0 th.ats.length ca0, .int .i64 th.n, .int .i64 th.d, .string ⟨th.x.toArray⟩, .slice ak0 tk.len ck0] 43) = X1 at *
  have BX1 : Below w.heap.size w X1 := hb1
  have Kt0 := Lib.hid kk
  clear kk
  have HA := Lib.hid (attrs_below HA.out hb1)
  have HK := Lib.hid (lies_below HK.out hb1)
  obtain ⟨t0, ht⟩ : ∃ t, t = w.heap.size := ⟨_, rfl⟩
  rw [← ht] at Kt0 zt0
  have hpp : (Value.pointer (some ⟨w.heap.size, 0, none⟩)) = .pointer (some ⟨t0, 0, none⟩) := by rw [ht]
  rw [hpp]
  clear hpp ht hb1
  go_wp2_with fail
  refine (FF.out X1 BX1).mono ?_
  rintro e X2 ⟨rfl, hb2⟩
  have BX2 : Below w.heap.size w X2 := BX1.trans (hb2.mono BX1.size)
  have HA := Lib.hid (attrs_below HA.out hb2)
  have HK := Lib.hid (lies_below HK.out hb2)
  have Kt0 := Lib.hid ((hb2.block _ zt0).trans Kt0.out)
  have zt0 := Nat.lt_of_lt_of_le zt0 hb2.size
  clear hb2
  have d0 : X2.cell? ⟨t0, 0, none⟩ = some (.int .i64 th.k) := cell_of_block Kt0.out rfl
  have d1 : X2.cell? ⟨t0, 1, none⟩ = some (.string ⟨th.l.toArray⟩) := cell_of_block Kt0.out rfl
  have d2 : X2.cell? ⟨t0, 2, none⟩ = some (.slice aa0 th.ats.length ca0) := cell_of_block Kt0.out rfl
  have d3 : X2.cell? ⟨t0, 3, none⟩ = some (.int .i64 th.n) := cell_of_block Kt0.out rfl
  have d4 : X2.cell? ⟨t0, 4, none⟩ = some (.int .i64 th.d) := cell_of_block Kt0.out rfl
  have d5 : X2.cell? ⟨t0, 5, none⟩ = some (.string ⟨th.x.toArray⟩) := cell_of_block Kt0.out rfl
  have d6 : X2.cell? ⟨t0, 6, none⟩ = some (.slice ak0 tk.len ck0) := cell_of_block Kt0.out rfl
  have kk := World.alloc_heap_new X2 (.cells #[.int .i64 th.k, .string ⟨th.l.toArray⟩, .slice aa0 th.ats.length ca0, .int .i64 th.n, .int .i64 th.d, .string ⟨th.x.toArray⟩, .slice ak0 tk.len ck0] 43)
  have hb3 : Below X2.heap.size X2 (X2.alloc (.cells #[.int .i64 th.k, .string ⟨th.l.toArray⟩, .slice aa0 th.ats.length ca0, .int .i64 th.n, .int .i64 th.d, .string ⟨th.x.toArray⟩, .slice ak0 tk.len ck0] 43)) := (Below.refl _ _).alloc (Nat.le_refl _) _
  have HA := Lib.hid (attrs_below HA.out hb3)
  have HK := Lib.hid (lies_below HK.out hb3)
  have Kt0 := Lib.hid ((hb3.block _ zt0).trans Kt0.out)
  have zt0 := Nat.lt_of_lt_of_le zt0 hb3.size
  have LT := Lib.hid (lies_one kk HA.out HK.out)
  have BX3 : Below w.heap.size w (X2.alloc (.cells #[.int .i64 th.k, .string ⟨th.l.toArray⟩, .slice aa0 th.ats.length ca0, .int .i64 th.n, .int .i64 th.d, .string ⟨th.x.toArray⟩, .slice ak0 tk.len ck0] 43)) := BX2.trans (hb3.mono BX2.size)
  clear kk hb3
  go_wp2_with fail
  generalize X2.alloc (.cells #[.int .i64 th.k, .string ⟨th.l.toArray⟩, .slice aa0 th.ats.length ca0, .int .i64 th.n, .int .i64 th.d, .string ⟨th.x.toArray⟩, .slice ak0 tk.len ck0] 43) = X3 at *
  clear d0 d1 d2 d3 d4 d5 d6

  refine (FT.out X3 _ LT.out).mono ?_
  rintro e X4 ⟨rfl, hb4⟩
  have BX4 : Below w.heap.size w X4 := BX3.trans (hb4.mono BX3.size)
  have HA := Lib.hid (attrs_below HA.out hb4)
  have HK := Lib.hid (lies_below HK.out hb4)
  have Kt0 := Lib.hid ((hb4.block _ zt0).trans Kt0.out)
  have zt0 := Nat.lt_of_lt_of_le zt0 hb4.size
  clear LT
  clear hb4
  go_wp2_with fail
  refine (CX.out X4 BX4).mono ?_
  rintro e X5 ⟨aP, cP, rfl, hP, hb5⟩
  have BX5 : Below w.heap.size w X5 := BX4.trans (hb5.mono BX4.size)
  have HA := Lib.hid (attrs_below HA.out hb5)
  have HK := Lib.hid (lies_below HK.out hb5)
  have Kt0 := Lib.hid ((hb5.block _ zt0).trans Kt0.out)
  have zt0 := Nat.lt_of_lt_of_le zt0 hb5.size
  have HP := Lib.hid (intsF_lies hP)
  clear hP CX
  clear hb5
  go_wp2_with fail
  refine (CY.out X5 BX5).mono ?_
  rintro e X6 ⟨aQ, cQ, rfl, hQ, hb6⟩
  have BX6 : Below w.heap.size w X6 := BX5.trans (hb6.mono BX5.size)
  have HA := Lib.hid (attrs_below HA.out hb6)
  have HK := Lib.hid (lies_below HK.out hb6)
  have HP := Lib.hid (ints_below HP.out hb6)
  have Kt0 := Lib.hid ((hb6.block _ zt0).trans Kt0.out)
  have zt0 := Nat.lt_of_lt_of_le zt0 hb6.size
  have HQ := Lib.hid (intsF_lies hQ)
  clear hQ CY
  clear hb6
  go_wp2_with fail
  refine (AX.out X6 BX6 _ HP.out).mono ?_
  rintro e X7 ⟨aa1, ca1, ak1, ck1, rfl, hA, hK, hb7⟩
  have BX7 : Below w.heap.size w X7 := BX6.trans (hb7.mono BX6.size)
  have HA := Lib.hid (attrs_below HA.out hb7)
  have HK := Lib.hid (lies_below HK.out hb7)
  have HP := Lib.hid (ints_below HP.out hb7)
  have HQ := Lib.hid (ints_below HQ.out hb7)
  have Kt0 := Lib.hid ((hb7.block _ zt0).trans Kt0.out)
  have zt0 := Nat.lt_of_lt_of_le zt0 hb7.size
  unfold aggOf
  have HA1 := Lib.hid hA
  have HK1 := Lib.hid hK
  clear hA hK AX
  clear hb7
  go_upto_region 5 with fail
  have kk := World.alloc_heap_new X7 (.cells #[.int .i64 xh.k, .string ⟨xh.l.toArray⟩, .slice aa1 xh.ats.length ca1, .int .i64 xh.n, .int .i64 xh.d, .string ⟨xh.x.toArray⟩, .slice ak1 xk.len ck1] 43)
  have hb8 : Below X7.heap.size X7 (X7.alloc (.cells #[.int .i64 xh.k, .string ⟨xh.l.toArray⟩, .slice aa1 xh.ats.length ca1, .int .i64 xh.n, .int .i64 xh.d, .string ⟨xh.x.toArray⟩, .slice ak1 xk.len ck1] 43)) := (Below.refl _ _).alloc (Nat.le_refl _) _
  have zt1 : X7.heap.size < (X7.alloc (.cells #[.int .i64 xh.k, .string ⟨xh.l.toArray⟩, .slice aa1 xh.ats.length ca1, .int .i64 xh.n, .int .i64 xh.d, .string ⟨xh.x.toArray⟩, .slice ak1 xk.len ck1] 43)).heap.size := by simp
  generalize X7.alloc (.cells #[.int .i64 xh.k, .string ⟨xh.l.toArray⟩, .slice aa1 xh.ats.length ca1, .int .i64 xh.n, .int .i64 xh.d, .string ⟨xh.x.toArray⟩, .slice ak1 xk.len ck1] 43) = X8 at *
  have BX8 : Below w.heap.size w X8 := BX7.trans (hb8.mono BX7.size)
  have Kt1 := Lib.hid kk
  clear kk
  have HA := Lib.hid (attrs_below HA.out hb8)
  have HK := Lib.hid (lies_below HK.out hb8)
  have HP := Lib.hid (ints_below HP.out hb8)
  have HQ := Lib.hid (ints_below HQ.out hb8)
  have HA1 := Lib.hid (attrs_below HA1.out hb8)
  have HK1 := Lib.hid (lies_below HK1.out hb8)
  have Kt0 := Lib.hid ((hb8.block _ zt0).trans Kt0.out)
  have zt0 := Nat.lt_of_lt_of_le zt0 hb8.size
  obtain ⟨t1, ht⟩ : ∃ t, t = X7.heap.size := ⟨_, rfl⟩
  rw [← ht] at Kt1 zt1
  rw [← ht]
  clear ht hb8
  have d0 : X8.cell? ⟨t0, 0, none⟩ = some (.int .i64 th.k) := cell_of_block Kt0.out rfl
  have d1 : X8.cell? ⟨t0, 1, none⟩ = some (.string ⟨th.l.toArray⟩) := cell_of_block Kt0.out rfl
  have d2 : X8.cell? ⟨t0, 2, none⟩ = some (.slice aa0 th.ats.length ca0) := cell_of_block Kt0.out rfl
  have d3 : X8.cell? ⟨t0, 3, none⟩ = some (.int .i64 th.n) := cell_of_block Kt0.out rfl
  have d4 : X8.cell? ⟨t0, 4, none⟩ = some (.int .i64 th.d) := cell_of_block Kt0.out rfl
  have d5 : X8.cell? ⟨t0, 5, none⟩ = some (.string ⟨th.x.toArray⟩) := cell_of_block Kt0.out rfl
  have d6 : X8.cell? ⟨t0, 6, none⟩ = some (.slice ak0 tk.len ck0) := cell_of_block Kt0.out rfl
  go_wp2_with fail
  refine (PU.out X8 BX8 _ _ _ _ _ HP.out HA.out HK.out).mono ?_
  rintro e X9 ⟨v4, rfl, hG, hb9⟩
  have BX9 : Below w.heap.size w X9 := BX8.trans (hb9.mono BX8.size)
  have HA := Lib.hid (attrs_below HA.out hb9)
  have HK := Lib.hid (lies_below HK.out hb9)
  have HP := Lib.hid (ints_below HP.out hb9)
  have HQ := Lib.hid (ints_below HQ.out hb9)
  have HA1 := Lib.hid (attrs_below HA1.out hb9)
  have HK1 := Lib.hid (lies_below HK1.out hb9)
  have Kt0 := Lib.hid ((hb9.block _ zt0).trans Kt0.out)
  have zt0 := Nat.lt_of_lt_of_le zt0 hb9.size
  have Kt1 := Lib.hid ((hb9.block _ zt1).trans Kt1.out)
  have zt1 := Nat.lt_of_lt_of_le zt1 hb9.size
  have HG := Lib.hid (liesF_lies hG)
  obtain ⟨a4, c4, rfl⟩ := liesF_form hG
  clear hG PU
  clear hb9
  clear d0 d1 d2 d3 d4 d5 d6
  go_wp2_with fail
  refine (GR.out _).mono ?_
  rintro e X10 ⟨rfl, hb10⟩
  have BX10 : Below w.heap.size w X10 := BX9.trans (hb10.mono BX9.size)
  have HA := Lib.hid (attrs_below HA.out hb10)
  have HK := Lib.hid (lies_below HK.out hb10)
  have HP := Lib.hid (ints_below HP.out hb10)
  have HQ := Lib.hid (ints_below HQ.out hb10)
  have HA1 := Lib.hid (attrs_below HA1.out hb10)
  have HK1 := Lib.hid (lies_below HK1.out hb10)
  have Kt0 := Lib.hid ((hb10.block _ zt0).trans Kt0.out)
  have zt0 := Nat.lt_of_lt_of_le zt0 hb10.size
  have Kt1 := Lib.hid ((hb10.block _ zt1).trans Kt1.out)
  have zt1 := Nat.lt_of_lt_of_le zt1 hb10.size
  clear hb10
  go_wp2_with fail
  go_ret
  exact ⟨rfl, BX10⟩

set_option maxRecDepth 100000 in
set_option maxHeartbeats 8000000 in
theorem tput_err8 (f : Fo) (v : Value) (th : Hd) (tk : Fo) (va vk : Value) (a b : Nat) (w : World) (hl : Lies w v f) (ha : AttrsLie w va th.ats) (hk : Lies w vk tk) (ka kb : Nat) (x y : Vis) (hf : fitB f = true) (hf2 : fitB (.cons th tk .nil) = true) (hlen : f.len ≠ 0) (hma : a ≤ 65535) (hmb : b ≤ 65535) (hx : (seqAt [] 0 f)[ka]? = some x) (hy : (seqAt [] 0 f)[kb]? = some y) (hka : Int.tmod (a : Int) (f.size : Int) = (ka : Int)) (hkb : Int.tmod (b : Int) (f.size : Int) = (kb : Int))
    (hbe : (putV f (pathInts x.p) (.cons th tk .nil)) = (.nil, 8)) :
    Calls Tryz.prog 8 #[v, treeA th va vk, .int .u16 (a : Int), .int .u16 (b : Int)] w fun e w' => e = .returned (.bool true) ∧ Below w.heap.size w w' := by
  have GR := Lib.hid (fun w => grown_any w)
  have FF := Lib.hid (fun W (hW : Below w.heap.size w W) => fit_any f v W (lies_below hl hW))
  have FT := Lib.hid (fun W y (h : Lies W y (.cons th tk .nil)) => fit_any (.cons th tk .nil) y W h)
  have HA := Lib.hid ha
  have HK := Lib.hid hk
  have BX0 := Below.refl w.heap.size w
  obtain ⟨av, cv, rfl⟩ := lies_form hl
  obtain ⟨aa0, ca0, rfl⟩ := attrs_form ha
  obtain ⟨ak0, ck0, rfl⟩ := lies_form hk
  unfold treeA
  have h0 := (fit_parts hf).2
  have t0 := (fit_parts hf2).2
  have hs := small_ok h0
  have ts := small_ok t0
  rw [hf] at FF
  rw [hf2] at FT
  obtain ⟨q, i, g, ep, hg, hn⟩ := vis_split (List.mem_of_getElem? hx)
  have xm := List.mem_of_getElem? hx
  have ym := List.mem_of_getElem? hy
  obtain ⟨pv1, pv2⟩ := put_vals h0 t0 hg hn
  rw [← ep] at pv1 pv2
  have px := path_len xm
  have py := path_len ym
  have hsz := hs.size
  simp only [List.length_nil, Nat.zero_add] at px py
  have hpx : x.p.length ≤ 1000000 := by omega
  have hpy : y.p.length ≤ 1000000 := by omega
  have CX := Lib.hid (fun W (hW : Below w.heap.size w W) => chosen_any f _ a ka x W (lies_below hl hW) hs.size hma hx hka)
  have CY := Lib.hid (fun W (hW : Below w.heap.size w W) => chosen_any f _ b kb y W (lies_below hl hW) hs.size hmb hy hkb)
  have AX := Lib.hid (fun W (hW : Below w.heap.size w W) pv (hp : IntsLie W pv (pathInts x.p)) => (at_any f (pathInts x.p) _ pv W (lies_below hl hW) hs hp (by simpa using hpx)).mono fun _ _ h => at_ok (at_val h0 xm) (place_at xm) h)
  have AY := Lib.hid (fun W (hW : Below w.heap.size w W) pv (hp : IntsLie W pv (pathInts y.p)) => (at_any f (pathInts y.p) _ pv W (lies_below hl hW) hs hp (by simpa using hpy)).mono fun _ _ h => at_ok (at_val h0 ym) (place_at ym) h)
  have PU := Lib.hid (fun W (hW : Below w.heap.size w W) pv aa ca ak ck (hp : IntsLie W pv (pathInts x.p)) (h1 : AttrsLie W (.slice aa th.ats.length ca) th.ats) (h2 : Lies W (.slice ak tk.len ck) tk) => tput_any f (pathInts x.p) th tk _ pv aa ca ak ck W (lies_below hl hW) hp (by simpa using hpx) h1 h2 hs ts)
  rw [pv1] at PU
  unfold aggOf at PU
  rw [pv1] at hbe
  rw [hbe] at PU
  have eZ : ((f.len : Int) == 0) = false := by simp; omega
  clear hl ha hk hf hf2 hx hy h0 t0 hs ts px py hsz hpx hpy hka hkb hma hmb hlen xm ym pv1 pv2 hg hn ep hbe
  generalize changeAt f q (setK g i th tk) = G at *
  generalize x.p = xp at *
  generalize x.h = xh at *
  generalize x.ks = xk at *
  go_enter Tryz.func8, Tryz.ntmps8
  go_upto_region 1 with fail
  have kk := World.alloc_heap_new w (.cells #[.int .i64 th.k, .string ⟨th.l.toArray⟩, .slice aa0 th.ats.length ca0, .int .i64 th.n, .int .i64 th.d, .string ⟨th.x.toArray⟩, .slice ak0 tk.len ck0] 43)
  have hb1 : Below w.heap.size w (w.alloc (.cells #[.int .i64 th.k, .string ⟨th.l.toArray⟩, .slice aa0 th.ats.length ca0, .int .i64 th.n, .int .i64 th.d, .string ⟨th.x.toArray⟩, .slice ak0 tk.len ck0] 43)) := (Below.refl _ _).alloc (Nat.le_refl _) _
  have zt0 : w.heap.size < (w.alloc (.cells #[.int .i64 th.k, .string ⟨th.l.toArray⟩, .slice aa0 th.ats.length ca0, .int .i64 th.n, .int .i64 th.d, .string ⟨th.x.toArray⟩, .slice ak0 tk.len ck0] 43)).heap.size := by simp
  generalize w.alloc (.cells #[.int .i64 th.k, .string ⟨th.l.toArray⟩, .slice aa0 th.ats.length ca0, .int .i64 th.n, .int .i64 th.d, .string ⟨th.x.toArray⟩, .slice ak0 tk.len ck0] 43) = X1 at *
  have BX1 : Below w.heap.size w X1 := hb1
  have Kt0 := Lib.hid kk
  clear kk
  have HA := Lib.hid (attrs_below HA.out hb1)
  have HK := Lib.hid (lies_below HK.out hb1)
  obtain ⟨t0, ht⟩ : ∃ t, t = w.heap.size := ⟨_, rfl⟩
  rw [← ht] at Kt0 zt0
  have hpp : (Value.pointer (some ⟨w.heap.size, 0, none⟩)) = .pointer (some ⟨t0, 0, none⟩) := by rw [ht]
  rw [hpp]
  clear hpp ht hb1
  go_wp2_with fail
  refine (FF.out X1 BX1).mono ?_
  rintro e X2 ⟨rfl, hb2⟩
  have BX2 : Below w.heap.size w X2 := BX1.trans (hb2.mono BX1.size)
  have HA := Lib.hid (attrs_below HA.out hb2)
  have HK := Lib.hid (lies_below HK.out hb2)
  have Kt0 := Lib.hid ((hb2.block _ zt0).trans Kt0.out)
  have zt0 := Nat.lt_of_lt_of_le zt0 hb2.size
  clear hb2
  have d0 : X2.cell? ⟨t0, 0, none⟩ = some (.int .i64 th.k) := cell_of_block Kt0.out rfl
  have d1 : X2.cell? ⟨t0, 1, none⟩ = some (.string ⟨th.l.toArray⟩) := cell_of_block Kt0.out rfl
  have d2 : X2.cell? ⟨t0, 2, none⟩ = some (.slice aa0 th.ats.length ca0) := cell_of_block Kt0.out rfl
  have d3 : X2.cell? ⟨t0, 3, none⟩ = some (.int .i64 th.n) := cell_of_block Kt0.out rfl
  have d4 : X2.cell? ⟨t0, 4, none⟩ = some (.int .i64 th.d) := cell_of_block Kt0.out rfl
  have d5 : X2.cell? ⟨t0, 5, none⟩ = some (.string ⟨th.x.toArray⟩) := cell_of_block Kt0.out rfl
  have d6 : X2.cell? ⟨t0, 6, none⟩ = some (.slice ak0 tk.len ck0) := cell_of_block Kt0.out rfl
  have kk := World.alloc_heap_new X2 (.cells #[.int .i64 th.k, .string ⟨th.l.toArray⟩, .slice aa0 th.ats.length ca0, .int .i64 th.n, .int .i64 th.d, .string ⟨th.x.toArray⟩, .slice ak0 tk.len ck0] 43)
  have hb3 : Below X2.heap.size X2 (X2.alloc (.cells #[.int .i64 th.k, .string ⟨th.l.toArray⟩, .slice aa0 th.ats.length ca0, .int .i64 th.n, .int .i64 th.d, .string ⟨th.x.toArray⟩, .slice ak0 tk.len ck0] 43)) := (Below.refl _ _).alloc (Nat.le_refl _) _
  have HA := Lib.hid (attrs_below HA.out hb3)
  have HK := Lib.hid (lies_below HK.out hb3)
  have Kt0 := Lib.hid ((hb3.block _ zt0).trans Kt0.out)
  have zt0 := Nat.lt_of_lt_of_le zt0 hb3.size
  have LT := Lib.hid (lies_one kk HA.out HK.out)
  have BX3 : Below w.heap.size w (X2.alloc (.cells #[.int .i64 th.k, .string ⟨th.l.toArray⟩, .slice aa0 th.ats.length ca0, .int .i64 th.n, .int .i64 th.d, .string ⟨th.x.toArray⟩, .slice ak0 tk.len ck0] 43)) := BX2.trans (hb3.mono BX2.size)
  clear kk hb3
  go_wp2_with fail
  generalize X2.alloc (.cells #[.int .i64 th.k, .string ⟨th.l.toArray⟩, .slice aa0 th.ats.length ca0, .int .i64 th.n, .int .i64 th.d, .string ⟨th.x.toArray⟩, .slice ak0 tk.len ck0] 43) = X3 at *
  clear d0 d1 d2 d3 d4 d5 d6

  refine (FT.out X3 _ LT.out).mono ?_
  rintro e X4 ⟨rfl, hb4⟩
  have BX4 : Below w.heap.size w X4 := BX3.trans (hb4.mono BX3.size)
  have HA := Lib.hid (attrs_below HA.out hb4)
  have HK := Lib.hid (lies_below HK.out hb4)
  have Kt0 := Lib.hid ((hb4.block _ zt0).trans Kt0.out)
  have zt0 := Nat.lt_of_lt_of_le zt0 hb4.size
  clear LT
  clear hb4
  go_wp2_with fail
  refine (CX.out X4 BX4).mono ?_
  rintro e X5 ⟨aP, cP, rfl, hP, hb5⟩
  have BX5 : Below w.heap.size w X5 := BX4.trans (hb5.mono BX4.size)
  have HA := Lib.hid (attrs_below HA.out hb5)
  have HK := Lib.hid (lies_below HK.out hb5)
  have Kt0 := Lib.hid ((hb5.block _ zt0).trans Kt0.out)
  have zt0 := Nat.lt_of_lt_of_le zt0 hb5.size
  have HP := Lib.hid (intsF_lies hP)
  clear hP CX
  clear hb5
  go_wp2_with fail
  refine (CY.out X5 BX5).mono ?_
  rintro e X6 ⟨aQ, cQ, rfl, hQ, hb6⟩
  have BX6 : Below w.heap.size w X6 := BX5.trans (hb6.mono BX5.size)
  have HA := Lib.hid (attrs_below HA.out hb6)
  have HK := Lib.hid (lies_below HK.out hb6)
  have HP := Lib.hid (ints_below HP.out hb6)
  have Kt0 := Lib.hid ((hb6.block _ zt0).trans Kt0.out)
  have zt0 := Nat.lt_of_lt_of_le zt0 hb6.size
  have HQ := Lib.hid (intsF_lies hQ)
  clear hQ CY
  clear hb6
  go_wp2_with fail
  refine (AX.out X6 BX6 _ HP.out).mono ?_
  rintro e X7 ⟨aa1, ca1, ak1, ck1, rfl, hA, hK, hb7⟩
  have BX7 : Below w.heap.size w X7 := BX6.trans (hb7.mono BX6.size)
  have HA := Lib.hid (attrs_below HA.out hb7)
  have HK := Lib.hid (lies_below HK.out hb7)
  have HP := Lib.hid (ints_below HP.out hb7)
  have HQ := Lib.hid (ints_below HQ.out hb7)
  have Kt0 := Lib.hid ((hb7.block _ zt0).trans Kt0.out)
  have zt0 := Nat.lt_of_lt_of_le zt0 hb7.size
  unfold aggOf
  have HA1 := Lib.hid hA
  have HK1 := Lib.hid hK
  clear hA hK AX
  clear hb7
  go_upto_region 5 with fail
  have kk := World.alloc_heap_new X7 (.cells #[.int .i64 xh.k, .string ⟨xh.l.toArray⟩, .slice aa1 xh.ats.length ca1, .int .i64 xh.n, .int .i64 xh.d, .string ⟨xh.x.toArray⟩, .slice ak1 xk.len ck1] 43)
  have hb8 : Below X7.heap.size X7 (X7.alloc (.cells #[.int .i64 xh.k, .string ⟨xh.l.toArray⟩, .slice aa1 xh.ats.length ca1, .int .i64 xh.n, .int .i64 xh.d, .string ⟨xh.x.toArray⟩, .slice ak1 xk.len ck1] 43)) := (Below.refl _ _).alloc (Nat.le_refl _) _
  have zt1 : X7.heap.size < (X7.alloc (.cells #[.int .i64 xh.k, .string ⟨xh.l.toArray⟩, .slice aa1 xh.ats.length ca1, .int .i64 xh.n, .int .i64 xh.d, .string ⟨xh.x.toArray⟩, .slice ak1 xk.len ck1] 43)).heap.size := by simp
  generalize X7.alloc (.cells #[.int .i64 xh.k, .string ⟨xh.l.toArray⟩, .slice aa1 xh.ats.length ca1, .int .i64 xh.n, .int .i64 xh.d, .string ⟨xh.x.toArray⟩, .slice ak1 xk.len ck1] 43) = X8 at *
  have BX8 : Below w.heap.size w X8 := BX7.trans (hb8.mono BX7.size)
  have Kt1 := Lib.hid kk
  clear kk
  have HA := Lib.hid (attrs_below HA.out hb8)
  have HK := Lib.hid (lies_below HK.out hb8)
  have HP := Lib.hid (ints_below HP.out hb8)
  have HQ := Lib.hid (ints_below HQ.out hb8)
  have HA1 := Lib.hid (attrs_below HA1.out hb8)
  have HK1 := Lib.hid (lies_below HK1.out hb8)
  have Kt0 := Lib.hid ((hb8.block _ zt0).trans Kt0.out)
  have zt0 := Nat.lt_of_lt_of_le zt0 hb8.size
  obtain ⟨t1, ht⟩ : ∃ t, t = X7.heap.size := ⟨_, rfl⟩
  rw [← ht] at Kt1 zt1
  rw [← ht]
  clear ht hb8
  have d0 : X8.cell? ⟨t0, 0, none⟩ = some (.int .i64 th.k) := cell_of_block Kt0.out rfl
  have d1 : X8.cell? ⟨t0, 1, none⟩ = some (.string ⟨th.l.toArray⟩) := cell_of_block Kt0.out rfl
  have d2 : X8.cell? ⟨t0, 2, none⟩ = some (.slice aa0 th.ats.length ca0) := cell_of_block Kt0.out rfl
  have d3 : X8.cell? ⟨t0, 3, none⟩ = some (.int .i64 th.n) := cell_of_block Kt0.out rfl
  have d4 : X8.cell? ⟨t0, 4, none⟩ = some (.int .i64 th.d) := cell_of_block Kt0.out rfl
  have d5 : X8.cell? ⟨t0, 5, none⟩ = some (.string ⟨th.x.toArray⟩) := cell_of_block Kt0.out rfl
  have d6 : X8.cell? ⟨t0, 6, none⟩ = some (.slice ak0 tk.len ck0) := cell_of_block Kt0.out rfl
  go_wp2_with fail
  refine (PU.out X8 BX8 _ _ _ _ _ HP.out HA.out HK.out).mono ?_
  rintro e X9 ⟨v4, rfl, hG, hb9⟩
  have BX9 : Below w.heap.size w X9 := BX8.trans (hb9.mono BX8.size)
  have HA := Lib.hid (attrs_below HA.out hb9)
  have HK := Lib.hid (lies_below HK.out hb9)
  have HP := Lib.hid (ints_below HP.out hb9)
  have HQ := Lib.hid (ints_below HQ.out hb9)
  have HA1 := Lib.hid (attrs_below HA1.out hb9)
  have HK1 := Lib.hid (lies_below HK1.out hb9)
  have Kt0 := Lib.hid ((hb9.block _ zt0).trans Kt0.out)
  have zt0 := Nat.lt_of_lt_of_le zt0 hb9.size
  have Kt1 := Lib.hid ((hb9.block _ zt1).trans Kt1.out)
  have zt1 := Nat.lt_of_lt_of_le zt1 hb9.size
  have HG := Lib.hid (liesF_lies hG)
  obtain ⟨a4, c4, rfl⟩ := liesF_form hG
  clear hG PU
  clear hb9
  clear d0 d1 d2 d3 d4 d5 d6
  go_wp2_with fail
  refine (GR.out _).mono ?_
  rintro e X10 ⟨rfl, hb10⟩
  have BX10 : Below w.heap.size w X10 := BX9.trans (hb10.mono BX9.size)
  have HA := Lib.hid (attrs_below HA.out hb10)
  have HK := Lib.hid (lies_below HK.out hb10)
  have HP := Lib.hid (ints_below HP.out hb10)
  have HQ := Lib.hid (ints_below HQ.out hb10)
  have HA1 := Lib.hid (attrs_below HA1.out hb10)
  have HK1 := Lib.hid (lies_below HK1.out hb10)
  have Kt0 := Lib.hid ((hb10.block _ zt0).trans Kt0.out)
  have zt0 := Nat.lt_of_lt_of_le zt0 hb10.size
  have Kt1 := Lib.hid ((hb10.block _ zt1).trans Kt1.out)
  have zt1 := Nat.lt_of_lt_of_le zt1 hb10.size
  clear hb10
  go_wp2_with fail
  go_ret
  exact ⟨rfl, BX10⟩

set_option maxRecDepth 100000 in
set_option maxHeartbeats 8000000 in
theorem tput_in (f : Fo) (v : Value) (th : Hd) (tk : Fo) (va vk : Value) (a b : Nat) (w : World) (hl : Lies w v f) (ha : AttrsLie w va th.ats) (hk : Lies w vk tk) (ka kb : Nat) (x y : Vis) (hf : fitB f = true) (hf2 : fitB (.cons th tk .nil) = true) (hlen : f.len ≠ 0) (hma : a ≤ 65535) (hmb : b ≤ 65535) (hx : (seqAt [] 0 f)[ka]? = some x) (hy : (seqAt [] 0 f)[kb]? = some y) (hka : Int.tmod (a : Int) (f.size : Int) = (ka : Int)) (hkb : Int.tmod (b : Int) (f.size : Int) = (kb : Int))
    (hbo : (putV f (pathInts x.p) (.cons th tk .nil)).2 = 0) (har : aroundB (pathInts x.p) (pathInts y.p) = true) :
    Calls Tryz.prog 8 #[v, treeA th va vk, .int .u16 (a : Int), .int .u16 (b : Int)] w fun e w' => e = .returned (.bool true) ∧ Below w.heap.size w w' := by
  have GR := Lib.hid (fun w => grown_any w)
  have FF := Lib.hid (fun W (hW : Below w.heap.size w W) => fit_any f v W (lies_below hl hW))
  have FT := Lib.hid (fun W y (h : Lies W y (.cons th tk .nil)) => fit_any (.cons th tk .nil) y W h)
  have HA := Lib.hid ha
  have HK := Lib.hid hk
  have BX0 := Below.refl w.heap.size w
  obtain ⟨av, cv, rfl⟩ := lies_form hl
  obtain ⟨aa0, ca0, rfl⟩ := attrs_form ha
  obtain ⟨ak0, ck0, rfl⟩ := lies_form hk
  unfold treeA
  have h0 := (fit_parts hf).2
  have t0 := (fit_parts hf2).2
  have hs := small_ok h0
  have ts := small_ok t0
  rw [hf] at FF
  rw [hf2] at FT
  obtain ⟨q, i, g, ep, hg, hn⟩ := vis_split (List.mem_of_getElem? hx)
  have xm := List.mem_of_getElem? hx
  have ym := List.mem_of_getElem? hy
  obtain ⟨pv1, pv2⟩ := put_vals h0 t0 hg hn
  rw [← ep] at pv1 pv2
  have px := path_len xm
  have py := path_len ym
  have hsz := hs.size
  simp only [List.length_nil, Nat.zero_add] at px py
  have hpx : x.p.length ≤ 1000000 := by omega
  have hpy : y.p.length ≤ 1000000 := by omega
  have CX := Lib.hid (fun W (hW : Below w.heap.size w W) => chosen_any f _ a ka x W (lies_below hl hW) hs.size hma hx hka)
  have CY := Lib.hid (fun W (hW : Below w.heap.size w W) => chosen_any f _ b kb y W (lies_below hl hW) hs.size hmb hy hkb)
  have AX := Lib.hid (fun W (hW : Below w.heap.size w W) pv (hp : IntsLie W pv (pathInts x.p)) => (at_any f (pathInts x.p) _ pv W (lies_below hl hW) hs hp (by simpa using hpx)).mono fun _ _ h => at_ok (at_val h0 xm) (place_at xm) h)
  have AY := Lib.hid (fun W (hW : Below w.heap.size w W) pv (hp : IntsLie W pv (pathInts y.p)) => (at_any f (pathInts y.p) _ pv W (lies_below hl hW) hs hp (by simpa using hpy)).mono fun _ _ h => at_ok (at_val h0 ym) (place_at ym) h)
  have PU := Lib.hid (fun W (hW : Below w.heap.size w W) pv aa ca ak ck (hp : IntsLie W pv (pathInts x.p)) (h1 : AttrsLie W (.slice aa th.ats.length ca) th.ats) (h2 : Lies W (.slice ak tk.len ck) tk) => tput_any f (pathInts x.p) th tk _ pv aa ca ak ck W (lies_below hl hW) hp (by simpa using hpx) h1 h2 hs ts)
  rw [pv1] at PU
  unfold aggOf at PU
  have hbn : bndErr (changeAt f q (setK g i th tk)) = 0 := by
    rw [pv1] at hbo
    rcases in_bnd (changeAt f q (setK g i th tk)) with ⟨h, -⟩ | h | h
    · exact h
    · rw [h] at hbo; cases hbo
    · rw [h] at hbo; cases hbo
  obtain ⟨z2, pg, pb⟩ := pv2 hbn
  have zw := one_ok (place_at xm) h0
  have gs := small_ok z2
  rw [show inBnd (changeAt f q (setK g i th tk)) = (changeAt f q (setK g i th tk), 0) by unfold inBnd; rw [if_pos hbn]] at PU
  have hne : pathInts x.p ≠ [] := by simpa using path_ne xm
  have hney : pathInts y.p ≠ [] := by simpa using path_ne ym
  have ap : atErr (changeAt f q (setK g i th tk)) (pathInts x.p) = 0 := by unfold atErr placeErr; rw [if_neg hne, pg, z2]; rfl
  have AG := Lib.hid (fun W u pv (h : Lies W u (changeAt f q (setK g i th tk))) (hp : IntsLie W pv (pathInts x.p)) => (at_any (changeAt f q (setK g i th tk)) (pathInts x.p) u pv W h gs hp (by simpa using hpx)).mono fun _ _ h => at_ok ap pg h)
  have PB := Lib.hid (fun W u pv aa ca ak ck (h : Lies W u (changeAt f q (setK g i th tk))) (hp : IntsLie W pv (pathInts x.p)) (h1 : AttrsLie W (.slice aa x.h.ats.length ca) x.h.ats) (h2 : Lies W (.slice ak x.ks.len ck) x.ks) => tput_any (changeAt f q (setK g i th tk)) (pathInts x.p) x.h x.ks u pv aa ca ak ck W h hp (by simpa using hpx) h1 h2 gs (small_ok zw))
  rw [pb] at PB
  unfold aggOf at PB
  have SR := Lib.hid (fun (F : Fo) x y W (h1 : Lies W x F) (h2 : Lies W y F) => same_refl F.size F (Nat.le_refl _) x y W h1 h2)
  have FL := Lib.hid (fun W (hW : Below w.heap.size w W) => lies_below hl hW)
  have AR := Lib.hid (fun W u u' (h1 : IntsLie W u (pathInts x.p)) (h2 : IntsLie W u' (pathInts y.p)) => around_any (pathInts x.p) (pathInts y.p) u u' W h1 h2 (by simpa using hpx))
  rw [har] at AR
  have eZ : ((f.len : Int) == 0) = false := by simp; omega
  clear hl ha hk hf hf2 hx hy h0 t0 hs ts px py hsz hpx hpy hka hkb hma hmb hlen xm ym pv1 pv2 hg hn ep hbo hbn z2 pg pb zw gs hne hney ap har
  generalize changeAt f q (setK g i th tk) = G at *
  generalize x.p = xp at *
  generalize x.h = xh at *
  generalize x.ks = xk at *
  generalize y.p = yp at *
  generalize y.h = yh at *
  generalize y.ks = yk at *
  go_enter Tryz.func8, Tryz.ntmps8
  go_upto_region 1 with fail
  have kk := World.alloc_heap_new w (.cells #[.int .i64 th.k, .string ⟨th.l.toArray⟩, .slice aa0 th.ats.length ca0, .int .i64 th.n, .int .i64 th.d, .string ⟨th.x.toArray⟩, .slice ak0 tk.len ck0] 43)
  have hb1 : Below w.heap.size w (w.alloc (.cells #[.int .i64 th.k, .string ⟨th.l.toArray⟩, .slice aa0 th.ats.length ca0, .int .i64 th.n, .int .i64 th.d, .string ⟨th.x.toArray⟩, .slice ak0 tk.len ck0] 43)) := (Below.refl _ _).alloc (Nat.le_refl _) _
  have zt0 : w.heap.size < (w.alloc (.cells #[.int .i64 th.k, .string ⟨th.l.toArray⟩, .slice aa0 th.ats.length ca0, .int .i64 th.n, .int .i64 th.d, .string ⟨th.x.toArray⟩, .slice ak0 tk.len ck0] 43)).heap.size := by simp
  generalize w.alloc (.cells #[.int .i64 th.k, .string ⟨th.l.toArray⟩, .slice aa0 th.ats.length ca0, .int .i64 th.n, .int .i64 th.d, .string ⟨th.x.toArray⟩, .slice ak0 tk.len ck0] 43) = X1 at *
  have BX1 : Below w.heap.size w X1 := hb1
  have Kt0 := Lib.hid kk
  clear kk
  have HA := Lib.hid (attrs_below HA.out hb1)
  have HK := Lib.hid (lies_below HK.out hb1)
  obtain ⟨t0, ht⟩ : ∃ t, t = w.heap.size := ⟨_, rfl⟩
  rw [← ht] at Kt0 zt0
  have hpp : (Value.pointer (some ⟨w.heap.size, 0, none⟩)) = .pointer (some ⟨t0, 0, none⟩) := by rw [ht]
  rw [hpp]
  clear hpp ht hb1
  go_wp2_with fail
  refine (FF.out X1 BX1).mono ?_
  rintro e X2 ⟨rfl, hb2⟩
  have BX2 : Below w.heap.size w X2 := BX1.trans (hb2.mono BX1.size)
  have HA := Lib.hid (attrs_below HA.out hb2)
  have HK := Lib.hid (lies_below HK.out hb2)
  have Kt0 := Lib.hid ((hb2.block _ zt0).trans Kt0.out)
  have zt0 := Nat.lt_of_lt_of_le zt0 hb2.size
  clear hb2
  have d0 : X2.cell? ⟨t0, 0, none⟩ = some (.int .i64 th.k) := cell_of_block Kt0.out rfl
  have d1 : X2.cell? ⟨t0, 1, none⟩ = some (.string ⟨th.l.toArray⟩) := cell_of_block Kt0.out rfl
  have d2 : X2.cell? ⟨t0, 2, none⟩ = some (.slice aa0 th.ats.length ca0) := cell_of_block Kt0.out rfl
  have d3 : X2.cell? ⟨t0, 3, none⟩ = some (.int .i64 th.n) := cell_of_block Kt0.out rfl
  have d4 : X2.cell? ⟨t0, 4, none⟩ = some (.int .i64 th.d) := cell_of_block Kt0.out rfl
  have d5 : X2.cell? ⟨t0, 5, none⟩ = some (.string ⟨th.x.toArray⟩) := cell_of_block Kt0.out rfl
  have d6 : X2.cell? ⟨t0, 6, none⟩ = some (.slice ak0 tk.len ck0) := cell_of_block Kt0.out rfl
  have kk := World.alloc_heap_new X2 (.cells #[.int .i64 th.k, .string ⟨th.l.toArray⟩, .slice aa0 th.ats.length ca0, .int .i64 th.n, .int .i64 th.d, .string ⟨th.x.toArray⟩, .slice ak0 tk.len ck0] 43)
  have hb3 : Below X2.heap.size X2 (X2.alloc (.cells #[.int .i64 th.k, .string ⟨th.l.toArray⟩, .slice aa0 th.ats.length ca0, .int .i64 th.n, .int .i64 th.d, .string ⟨th.x.toArray⟩, .slice ak0 tk.len ck0] 43)) := (Below.refl _ _).alloc (Nat.le_refl _) _
  have HA := Lib.hid (attrs_below HA.out hb3)
  have HK := Lib.hid (lies_below HK.out hb3)
  have Kt0 := Lib.hid ((hb3.block _ zt0).trans Kt0.out)
  have zt0 := Nat.lt_of_lt_of_le zt0 hb3.size
  have LT := Lib.hid (lies_one kk HA.out HK.out)
  have BX3 : Below w.heap.size w (X2.alloc (.cells #[.int .i64 th.k, .string ⟨th.l.toArray⟩, .slice aa0 th.ats.length ca0, .int .i64 th.n, .int .i64 th.d, .string ⟨th.x.toArray⟩, .slice ak0 tk.len ck0] 43)) := BX2.trans (hb3.mono BX2.size)
  clear kk hb3
  go_wp2_with fail
  generalize X2.alloc (.cells #[.int .i64 th.k, .string ⟨th.l.toArray⟩, .slice aa0 th.ats.length ca0, .int .i64 th.n, .int .i64 th.d, .string ⟨th.x.toArray⟩, .slice ak0 tk.len ck0] 43) = X3 at *
  clear d0 d1 d2 d3 d4 d5 d6

  refine (FT.out X3 _ LT.out).mono ?_
  rintro e X4 ⟨rfl, hb4⟩
  have BX4 : Below w.heap.size w X4 := BX3.trans (hb4.mono BX3.size)
  have HA := Lib.hid (attrs_below HA.out hb4)
  have HK := Lib.hid (lies_below HK.out hb4)
  have Kt0 := Lib.hid ((hb4.block _ zt0).trans Kt0.out)
  have zt0 := Nat.lt_of_lt_of_le zt0 hb4.size
  clear LT
  clear hb4
  go_wp2_with fail
  refine (CX.out X4 BX4).mono ?_
  rintro e X5 ⟨aP, cP, rfl, hP, hb5⟩
  have BX5 : Below w.heap.size w X5 := BX4.trans (hb5.mono BX4.size)
  have HA := Lib.hid (attrs_below HA.out hb5)
  have HK := Lib.hid (lies_below HK.out hb5)
  have Kt0 := Lib.hid ((hb5.block _ zt0).trans Kt0.out)
  have zt0 := Nat.lt_of_lt_of_le zt0 hb5.size
  have HP := Lib.hid (intsF_lies hP)
  clear hP CX
  clear hb5
  go_wp2_with fail
  refine (CY.out X5 BX5).mono ?_
  rintro e X6 ⟨aQ, cQ, rfl, hQ, hb6⟩
  have BX6 : Below w.heap.size w X6 := BX5.trans (hb6.mono BX5.size)
  have HA := Lib.hid (attrs_below HA.out hb6)
  have HK := Lib.hid (lies_below HK.out hb6)
  have HP := Lib.hid (ints_below HP.out hb6)
  have Kt0 := Lib.hid ((hb6.block _ zt0).trans Kt0.out)
  have zt0 := Nat.lt_of_lt_of_le zt0 hb6.size
  have HQ := Lib.hid (intsF_lies hQ)
  clear hQ CY
  clear hb6
  go_wp2_with fail
  refine (AX.out X6 BX6 _ HP.out).mono ?_
  rintro e X7 ⟨aa1, ca1, ak1, ck1, rfl, hA, hK, hb7⟩
  have BX7 : Below w.heap.size w X7 := BX6.trans (hb7.mono BX6.size)
  have HA := Lib.hid (attrs_below HA.out hb7)
  have HK := Lib.hid (lies_below HK.out hb7)
  have HP := Lib.hid (ints_below HP.out hb7)
  have HQ := Lib.hid (ints_below HQ.out hb7)
  have Kt0 := Lib.hid ((hb7.block _ zt0).trans Kt0.out)
  have zt0 := Nat.lt_of_lt_of_le zt0 hb7.size
  unfold aggOf
  have HA1 := Lib.hid hA
  have HK1 := Lib.hid hK
  clear hA hK AX
  clear hb7
  go_upto_region 5 with fail
  have kk := World.alloc_heap_new X7 (.cells #[.int .i64 xh.k, .string ⟨xh.l.toArray⟩, .slice aa1 xh.ats.length ca1, .int .i64 xh.n, .int .i64 xh.d, .string ⟨xh.x.toArray⟩, .slice ak1 xk.len ck1] 43)
  have hb8 : Below X7.heap.size X7 (X7.alloc (.cells #[.int .i64 xh.k, .string ⟨xh.l.toArray⟩, .slice aa1 xh.ats.length ca1, .int .i64 xh.n, .int .i64 xh.d, .string ⟨xh.x.toArray⟩, .slice ak1 xk.len ck1] 43)) := (Below.refl _ _).alloc (Nat.le_refl _) _
  have zt1 : X7.heap.size < (X7.alloc (.cells #[.int .i64 xh.k, .string ⟨xh.l.toArray⟩, .slice aa1 xh.ats.length ca1, .int .i64 xh.n, .int .i64 xh.d, .string ⟨xh.x.toArray⟩, .slice ak1 xk.len ck1] 43)).heap.size := by simp
  generalize X7.alloc (.cells #[.int .i64 xh.k, .string ⟨xh.l.toArray⟩, .slice aa1 xh.ats.length ca1, .int .i64 xh.n, .int .i64 xh.d, .string ⟨xh.x.toArray⟩, .slice ak1 xk.len ck1] 43) = X8 at *
  have BX8 : Below w.heap.size w X8 := BX7.trans (hb8.mono BX7.size)
  have Kt1 := Lib.hid kk
  clear kk
  have HA := Lib.hid (attrs_below HA.out hb8)
  have HK := Lib.hid (lies_below HK.out hb8)
  have HP := Lib.hid (ints_below HP.out hb8)
  have HQ := Lib.hid (ints_below HQ.out hb8)
  have HA1 := Lib.hid (attrs_below HA1.out hb8)
  have HK1 := Lib.hid (lies_below HK1.out hb8)
  have Kt0 := Lib.hid ((hb8.block _ zt0).trans Kt0.out)
  have zt0 := Nat.lt_of_lt_of_le zt0 hb8.size
  obtain ⟨t1, ht⟩ : ∃ t, t = X7.heap.size := ⟨_, rfl⟩
  rw [← ht] at Kt1 zt1
  rw [← ht]
  clear ht hb8
  have d0 : X8.cell? ⟨t0, 0, none⟩ = some (.int .i64 th.k) := cell_of_block Kt0.out rfl
  have d1 : X8.cell? ⟨t0, 1, none⟩ = some (.string ⟨th.l.toArray⟩) := cell_of_block Kt0.out rfl
  have d2 : X8.cell? ⟨t0, 2, none⟩ = some (.slice aa0 th.ats.length ca0) := cell_of_block Kt0.out rfl
  have d3 : X8.cell? ⟨t0, 3, none⟩ = some (.int .i64 th.n) := cell_of_block Kt0.out rfl
  have d4 : X8.cell? ⟨t0, 4, none⟩ = some (.int .i64 th.d) := cell_of_block Kt0.out rfl
  have d5 : X8.cell? ⟨t0, 5, none⟩ = some (.string ⟨th.x.toArray⟩) := cell_of_block Kt0.out rfl
  have d6 : X8.cell? ⟨t0, 6, none⟩ = some (.slice ak0 tk.len ck0) := cell_of_block Kt0.out rfl
  go_wp2_with fail
  refine (PU.out X8 BX8 _ _ _ _ _ HP.out HA.out HK.out).mono ?_
  rintro e X9 ⟨v4, rfl, hG, hb9⟩
  have BX9 : Below w.heap.size w X9 := BX8.trans (hb9.mono BX8.size)
  have HA := Lib.hid (attrs_below HA.out hb9)
  have HK := Lib.hid (lies_below HK.out hb9)
  have HP := Lib.hid (ints_below HP.out hb9)
  have HQ := Lib.hid (ints_below HQ.out hb9)
  have HA1 := Lib.hid (attrs_below HA1.out hb9)
  have HK1 := Lib.hid (lies_below HK1.out hb9)
  have Kt0 := Lib.hid ((hb9.block _ zt0).trans Kt0.out)
  have zt0 := Nat.lt_of_lt_of_le zt0 hb9.size
  have Kt1 := Lib.hid ((hb9.block _ zt1).trans Kt1.out)
  have zt1 := Nat.lt_of_lt_of_le zt1 hb9.size
  have HG := Lib.hid (liesF_lies hG)
  obtain ⟨a4, c4, rfl⟩ := liesF_form hG
  clear hG PU
  clear hb9
  clear d0 d1 d2 d3 d4 d5 d6
  go_wp2_with fail
  refine (AG.out X9 _ _ HG.out HP.out).mono ?_
  rintro e X10 ⟨aa2, ca2, ak2, ck2, rfl, hA, hK, hb10⟩
  have BX10 : Below w.heap.size w X10 := BX9.trans (hb10.mono BX9.size)
  have HA := Lib.hid (attrs_below HA.out hb10)
  have HK := Lib.hid (lies_below HK.out hb10)
  have HP := Lib.hid (ints_below HP.out hb10)
  have HQ := Lib.hid (ints_below HQ.out hb10)
  have HA1 := Lib.hid (attrs_below HA1.out hb10)
  have HK1 := Lib.hid (lies_below HK1.out hb10)
  have HG := Lib.hid (lies_below HG.out hb10)
  have Kt0 := Lib.hid ((hb10.block _ zt0).trans Kt0.out)
  have zt0 := Nat.lt_of_lt_of_le zt0 hb10.size
  have Kt1 := Lib.hid ((hb10.block _ zt1).trans Kt1.out)
  have zt1 := Nat.lt_of_lt_of_le zt1 hb10.size
  unfold aggOf
  have HA2 := Lib.hid hA
  have HK2 := Lib.hid hK
  clear hA hK AG
  clear hb10
  go_upto_region 9 with fail
  have kk := World.alloc_heap_new X10 (.cells #[.int .i64 th.k, .string ⟨th.l.toArray⟩, .slice aa2 th.ats.length ca2, .int .i64 th.n, .int .i64 th.d, .string ⟨th.x.toArray⟩, .slice ak2 tk.len ck2] 43)
  have hb11 : Below X10.heap.size X10 (X10.alloc (.cells #[.int .i64 th.k, .string ⟨th.l.toArray⟩, .slice aa2 th.ats.length ca2, .int .i64 th.n, .int .i64 th.d, .string ⟨th.x.toArray⟩, .slice ak2 tk.len ck2] 43)) := (Below.refl _ _).alloc (Nat.le_refl _) _
  have zt2 : X10.heap.size < (X10.alloc (.cells #[.int .i64 th.k, .string ⟨th.l.toArray⟩, .slice aa2 th.ats.length ca2, .int .i64 th.n, .int .i64 th.d, .string ⟨th.x.toArray⟩, .slice ak2 tk.len ck2] 43)).heap.size := by simp
  generalize X10.alloc (.cells #[.int .i64 th.k, .string ⟨th.l.toArray⟩, .slice aa2 th.ats.length ca2, .int .i64 th.n, .int .i64 th.d, .string ⟨th.x.toArray⟩, .slice ak2 tk.len ck2] 43) = X11 at *
  have BX11 : Below w.heap.size w X11 := BX10.trans (hb11.mono BX10.size)
  have Kt2 := Lib.hid kk
  clear kk
  have HA := Lib.hid (attrs_below HA.out hb11)
  have HK := Lib.hid (lies_below HK.out hb11)
  have HP := Lib.hid (ints_below HP.out hb11)
  have HQ := Lib.hid (ints_below HQ.out hb11)
  have HA1 := Lib.hid (attrs_below HA1.out hb11)
  have HK1 := Lib.hid (lies_below HK1.out hb11)
  have HG := Lib.hid (lies_below HG.out hb11)
  have HA2 := Lib.hid (attrs_below HA2.out hb11)
  have HK2 := Lib.hid (lies_below HK2.out hb11)
  have Kt0 := Lib.hid ((hb11.block _ zt0).trans Kt0.out)
  have zt0 := Nat.lt_of_lt_of_le zt0 hb11.size
  have Kt1 := Lib.hid ((hb11.block _ zt1).trans Kt1.out)
  have zt1 := Nat.lt_of_lt_of_le zt1 hb11.size
  obtain ⟨t2, ht⟩ : ∃ t, t = X10.heap.size := ⟨_, rfl⟩
  rw [← ht] at Kt2 zt2
  rw [← ht]
  clear ht hb11
  have d0 : X11.cell? ⟨t2, 0, none⟩ = some (.int .i64 th.k) := cell_of_block Kt2.out rfl
  have d1 : X11.cell? ⟨t2, 1, none⟩ = some (.string ⟨th.l.toArray⟩) := cell_of_block Kt2.out rfl
  have d2 : X11.cell? ⟨t2, 2, none⟩ = some (.slice aa2 th.ats.length ca2) := cell_of_block Kt2.out rfl
  have d3 : X11.cell? ⟨t2, 3, none⟩ = some (.int .i64 th.n) := cell_of_block Kt2.out rfl
  have d4 : X11.cell? ⟨t2, 4, none⟩ = some (.int .i64 th.d) := cell_of_block Kt2.out rfl
  have d5 : X11.cell? ⟨t2, 5, none⟩ = some (.string ⟨th.x.toArray⟩) := cell_of_block Kt2.out rfl
  have d6 : X11.cell? ⟨t2, 6, none⟩ = some (.slice ak2 tk.len ck2) := cell_of_block Kt2.out rfl
  have c0 : X11.cell? ⟨t0, 0, none⟩ = some (.int .i64 th.k) := cell_of_block Kt0.out rfl
  have c1 : X11.cell? ⟨t0, 1, none⟩ = some (.string ⟨th.l.toArray⟩) := cell_of_block Kt0.out rfl
  have c2 : X11.cell? ⟨t0, 2, none⟩ = some (.slice aa0 th.ats.length ca0) := cell_of_block Kt0.out rfl
  have c3 : X11.cell? ⟨t0, 3, none⟩ = some (.int .i64 th.n) := cell_of_block Kt0.out rfl
  have c4 : X11.cell? ⟨t0, 4, none⟩ = some (.int .i64 th.d) := cell_of_block Kt0.out rfl
  have c5 : X11.cell? ⟨t0, 5, none⟩ = some (.string ⟨th.x.toArray⟩) := cell_of_block Kt0.out rfl
  have c6 : X11.cell? ⟨t0, 6, none⟩ = some (.slice ak0 tk.len ck0) := cell_of_block Kt0.out rfl
  have k8 := World.alloc_heap_new X11 (.cells #[.int .i64 th.k, .string ⟨th.l.toArray⟩, .slice aa2 th.ats.length ca2, .int .i64 th.n, .int .i64 th.d, .string ⟨th.x.toArray⟩, .slice ak2 tk.len ck2] 43)
  have ba8 : Below X11.heap.size X11 (X11.alloc (.cells #[.int .i64 th.k, .string ⟨th.l.toArray⟩, .slice aa2 th.ats.length ca2, .int .i64 th.n, .int .i64 th.d, .string ⟨th.x.toArray⟩, .slice ak2 tk.len ck2] 43)) := (Below.refl _ _).alloc (Nat.le_refl _) _
  have e8 : (X11.alloc (.cells #[.int .i64 th.k, .string ⟨th.l.toArray⟩, .slice aa2 th.ats.length ca2, .int .i64 th.n, .int .i64 th.d, .string ⟨th.x.toArray⟩, .slice ak2 tk.len ck2] 43)).heap.size = X11.heap.size + 1 := by simp
  have ba9 : Below (X11.alloc (.cells #[.int .i64 th.k, .string ⟨th.l.toArray⟩, .slice aa2 th.ats.length ca2, .int .i64 th.n, .int .i64 th.d, .string ⟨th.x.toArray⟩, .slice ak2 tk.len ck2] 43)).heap.size (X11.alloc (.cells #[.int .i64 th.k, .string ⟨th.l.toArray⟩, .slice aa2 th.ats.length ca2, .int .i64 th.n, .int .i64 th.d, .string ⟨th.x.toArray⟩, .slice ak2 tk.len ck2] 43)) ((X11.alloc (.cells #[.int .i64 th.k, .string ⟨th.l.toArray⟩, .slice aa2 th.ats.length ca2, .int .i64 th.n, .int .i64 th.d, .string ⟨th.x.toArray⟩, .slice ak2 tk.len ck2] 43)).alloc (.cells #[.int .i64 th.k, .string ⟨th.l.toArray⟩, .slice aa0 th.ats.length ca0, .int .i64 th.n, .int .i64 th.d, .string ⟨th.x.toArray⟩, .slice ak0 tk.len ck0] 43)) := (Below.refl _ _).alloc (Nat.le_refl _) _
  have k9 := World.alloc_heap_new (X11.alloc (.cells #[.int .i64 th.k, .string ⟨th.l.toArray⟩, .slice aa2 th.ats.length ca2, .int .i64 th.n, .int .i64 th.d, .string ⟨th.x.toArray⟩, .slice ak2 tk.len ck2] 43)) (.cells #[.int .i64 th.k, .string ⟨th.l.toArray⟩, .slice aa0 th.ats.length ca0, .int .i64 th.n, .int .i64 th.d, .string ⟨th.x.toArray⟩, .slice ak0 tk.len ck0] 43)
  have L1 := Lib.hid (lies_below (lies_one k8 (attrs_below HA2.out ba8) (lies_below HK2.out ba8)) ba9)
  have hb13 := ba8.trans (ba9.mono (by omega))
  have BX13 : Below w.heap.size w ((X11.alloc (.cells #[.int .i64 th.k, .string ⟨th.l.toArray⟩, .slice aa2 th.ats.length ca2, .int .i64 th.n, .int .i64 th.d, .string ⟨th.x.toArray⟩, .slice ak2 tk.len ck2] 43)).alloc (.cells #[.int .i64 th.k, .string ⟨th.l.toArray⟩, .slice aa0 th.ats.length ca0, .int .i64 th.n, .int .i64 th.d, .string ⟨th.x.toArray⟩, .slice ak0 tk.len ck0] 43)) := BX11.trans (hb13.mono BX11.size)
  have L2 := Lib.hid (lies_one k9 (attrs_below HA.out hb13) (lies_below HK.out hb13))
  rw [e8] at L2
  have HA := Lib.hid (attrs_below HA.out hb13)
  have HK := Lib.hid (lies_below HK.out hb13)
  have HP := Lib.hid (ints_below HP.out hb13)
  have HQ := Lib.hid (ints_below HQ.out hb13)
  have HA1 := Lib.hid (attrs_below HA1.out hb13)
  have HK1 := Lib.hid (lies_below HK1.out hb13)
  have HG := Lib.hid (lies_below HG.out hb13)
  have HA2 := Lib.hid (attrs_below HA2.out hb13)
  have HK2 := Lib.hid (lies_below HK2.out hb13)
  have Kt0 := Lib.hid ((hb13.block _ zt0).trans Kt0.out)
  have zt0 := Nat.lt_of_lt_of_le zt0 hb13.size
  have Kt1 := Lib.hid ((hb13.block _ zt1).trans Kt1.out)
  have zt1 := Nat.lt_of_lt_of_le zt1 hb13.size
  have Kt2 := Lib.hid ((hb13.block _ zt2).trans Kt2.out)
  have zt2 := Nat.lt_of_lt_of_le zt2 hb13.size
  clear k8 k9 ba8 ba9 e8 hb13
  go_wp2_with fail
  generalize (X11.alloc (.cells #[.int .i64 th.k, .string ⟨th.l.toArray⟩, .slice aa2 th.ats.length ca2, .int .i64 th.n, .int .i64 th.d, .string ⟨th.x.toArray⟩, .slice ak2 tk.len ck2] 43)).alloc (.cells #[.int .i64 th.k, .string ⟨th.l.toArray⟩, .slice aa0 th.ats.length ca0, .int .i64 th.n, .int .i64 th.d, .string ⟨th.x.toArray⟩, .slice ak0 tk.len ck0] 43) = X13 at *
  clear d0 d1 d2 d3 d4 d5 d6
  clear c0 c1 c2 c3 c4 c5 c6

  refine (SR.out _ _ _ X13 L1.out L2.out).mono ?_
  rintro e X14 ⟨rfl, hb14⟩
  have BX14 : Below w.heap.size w X14 := BX13.trans (hb14.mono BX13.size)
  have HA := Lib.hid (attrs_below HA.out hb14)
  have HK := Lib.hid (lies_below HK.out hb14)
  have HP := Lib.hid (ints_below HP.out hb14)
  have HQ := Lib.hid (ints_below HQ.out hb14)
  have HA1 := Lib.hid (attrs_below HA1.out hb14)
  have HK1 := Lib.hid (lies_below HK1.out hb14)
  have HG := Lib.hid (lies_below HG.out hb14)
  have HA2 := Lib.hid (attrs_below HA2.out hb14)
  have HK2 := Lib.hid (lies_below HK2.out hb14)
  have Kt0 := Lib.hid ((hb14.block _ zt0).trans Kt0.out)
  have zt0 := Nat.lt_of_lt_of_le zt0 hb14.size
  have Kt1 := Lib.hid ((hb14.block _ zt1).trans Kt1.out)
  have zt1 := Nat.lt_of_lt_of_le zt1 hb14.size
  have Kt2 := Lib.hid ((hb14.block _ zt2).trans Kt2.out)
  have zt2 := Nat.lt_of_lt_of_le zt2 hb14.size
  clear L1 L2
  clear hb14
  clear Kt2 zt2 Kt0 zt0
  clear HA2 HK2 HA HK
  go_wp2_with fail
  refine (AR.out X14 _ _ HP.out HQ.out).mono ?_
  rintro e X15 ⟨rfl, hb15⟩
  have BX15 : Below w.heap.size w X15 := BX14.trans (hb15.mono BX14.size)
  have HP := Lib.hid (ints_below HP.out hb15)
  have HQ := Lib.hid (ints_below HQ.out hb15)
  have HA1 := Lib.hid (attrs_below HA1.out hb15)
  have HK1 := Lib.hid (lies_below HK1.out hb15)
  have HG := Lib.hid (lies_below HG.out hb15)
  have Kt1 := Lib.hid ((hb15.block _ zt1).trans Kt1.out)
  have zt1 := Nat.lt_of_lt_of_le zt1 hb15.size
  clear hb15
  have d0 : X15.cell? ⟨t1, 0, none⟩ = some (.int .i64 xh.k) := cell_of_block Kt1.out rfl
  have d1 : X15.cell? ⟨t1, 1, none⟩ = some (.string ⟨xh.l.toArray⟩) := cell_of_block Kt1.out rfl
  have d2 : X15.cell? ⟨t1, 2, none⟩ = some (.slice aa1 xh.ats.length ca1) := cell_of_block Kt1.out rfl
  have d3 : X15.cell? ⟨t1, 3, none⟩ = some (.int .i64 xh.n) := cell_of_block Kt1.out rfl
  have d4 : X15.cell? ⟨t1, 4, none⟩ = some (.int .i64 xh.d) := cell_of_block Kt1.out rfl
  have d5 : X15.cell? ⟨t1, 5, none⟩ = some (.string ⟨xh.x.toArray⟩) := cell_of_block Kt1.out rfl
  have d6 : X15.cell? ⟨t1, 6, none⟩ = some (.slice ak1 xk.len ck1) := cell_of_block Kt1.out rfl
  go_wp2_with fail
  refine (PB.out X15 _ _ _ _ _ _ HG.out HP.out HA1.out HK1.out).mono ?_
  rintro e X16 ⟨v5, rfl, hH, hb16⟩
  have BX16 : Below w.heap.size w X16 := BX15.trans (hb16.mono BX15.size)
  have HP := Lib.hid (ints_below HP.out hb16)
  have HQ := Lib.hid (ints_below HQ.out hb16)
  have HA1 := Lib.hid (attrs_below HA1.out hb16)
  have HK1 := Lib.hid (lies_below HK1.out hb16)
  have HG := Lib.hid (lies_below HG.out hb16)
  have Kt1 := Lib.hid ((hb16.block _ zt1).trans Kt1.out)
  have zt1 := Nat.lt_of_lt_of_le zt1 hb16.size
  have HH := Lib.hid (liesF_lies hH)
  obtain ⟨a5, c5, rfl⟩ := liesF_form hH
  clear hH PB
  clear hb16
  clear d0 d1 d2 d3 d4 d5 d6
  go_wp2_with fail
  refine (SR.out _ _ _ X16 HH.out (FL.out X16 BX16)).mono ?_
  rintro e X17 ⟨rfl, hb17⟩
  have BX17 : Below w.heap.size w X17 := BX16.trans (hb17.mono BX16.size)
  have HP := Lib.hid (ints_below HP.out hb17)
  have HQ := Lib.hid (ints_below HQ.out hb17)
  have HA1 := Lib.hid (attrs_below HA1.out hb17)
  have HK1 := Lib.hid (lies_below HK1.out hb17)
  have HG := Lib.hid (lies_below HG.out hb17)
  have Kt1 := Lib.hid ((hb17.block _ zt1).trans Kt1.out)
  have zt1 := Nat.lt_of_lt_of_le zt1 hb17.size
  clear hb17
  go_wp2_with fail
  refine (GR.out _).mono ?_
  rintro e X18 ⟨rfl, hb18⟩
  have BX18 : Below w.heap.size w X18 := BX17.trans (hb18.mono BX17.size)
  have HP := Lib.hid (ints_below HP.out hb18)
  have HQ := Lib.hid (ints_below HQ.out hb18)
  have HA1 := Lib.hid (attrs_below HA1.out hb18)
  have HK1 := Lib.hid (lies_below HK1.out hb18)
  have HG := Lib.hid (lies_below HG.out hb18)
  have Kt1 := Lib.hid ((hb18.block _ zt1).trans Kt1.out)
  have zt1 := Nat.lt_of_lt_of_le zt1 hb18.size
  clear hb18
  go_wp2_with fail
  go_ret
  exact ⟨rfl, BX18⟩

set_option maxRecDepth 100000 in
set_option maxHeartbeats 8000000 in
theorem tput_near (f : Fo) (v : Value) (th : Hd) (tk : Fo) (va vk : Value) (a b : Nat) (w : World) (hl : Lies w v f) (ha : AttrsLie w va th.ats) (hk : Lies w vk tk) (ka kb : Nat) (x y : Vis) (hf : fitB f = true) (hf2 : fitB (.cons th tk .nil) = true) (hlen : f.len ≠ 0) (hma : a ≤ 65535) (hmb : b ≤ 65535) (hx : (seqAt [] 0 f)[ka]? = some x) (hy : (seqAt [] 0 f)[kb]? = some y) (hka : Int.tmod (a : Int) (f.size : Int) = (ka : Int)) (hkb : Int.tmod (b : Int) (f.size : Int) = (kb : Int))
    (hbo : (putV f (pathInts x.p) (.cons th tk .nil)).2 = 0) (har : aroundB (pathInts x.p) (pathInts y.p) = false) (har2 : aroundB (pathInts y.p) (pathInts x.p) = true) :
    Calls Tryz.prog 8 #[v, treeA th va vk, .int .u16 (a : Int), .int .u16 (b : Int)] w fun e w' => e = .returned (.bool true) ∧ Below w.heap.size w w' := by
  have GR := Lib.hid (fun w => grown_any w)
  have FF := Lib.hid (fun W (hW : Below w.heap.size w W) => fit_any f v W (lies_below hl hW))
  have FT := Lib.hid (fun W y (h : Lies W y (.cons th tk .nil)) => fit_any (.cons th tk .nil) y W h)
  have HA := Lib.hid ha
  have HK := Lib.hid hk
  have BX0 := Below.refl w.heap.size w
  obtain ⟨av, cv, rfl⟩ := lies_form hl
  obtain ⟨aa0, ca0, rfl⟩ := attrs_form ha
  obtain ⟨ak0, ck0, rfl⟩ := lies_form hk
  unfold treeA
  have h0 := (fit_parts hf).2
  have t0 := (fit_parts hf2).2
  have hs := small_ok h0
  have ts := small_ok t0
  rw [hf] at FF
  rw [hf2] at FT
  obtain ⟨q, i, g, ep, hg, hn⟩ := vis_split (List.mem_of_getElem? hx)
  have xm := List.mem_of_getElem? hx
  have ym := List.mem_of_getElem? hy
  obtain ⟨pv1, pv2⟩ := put_vals h0 t0 hg hn
  rw [← ep] at pv1 pv2
  have px := path_len xm
  have py := path_len ym
  have hsz := hs.size
  simp only [List.length_nil, Nat.zero_add] at px py
  have hpx : x.p.length ≤ 1000000 := by omega
  have hpy : y.p.length ≤ 1000000 := by omega
  have CX := Lib.hid (fun W (hW : Below w.heap.size w W) => chosen_any f _ a ka x W (lies_below hl hW) hs.size hma hx hka)
  have CY := Lib.hid (fun W (hW : Below w.heap.size w W) => chosen_any f _ b kb y W (lies_below hl hW) hs.size hmb hy hkb)
  have AX := Lib.hid (fun W (hW : Below w.heap.size w W) pv (hp : IntsLie W pv (pathInts x.p)) => (at_any f (pathInts x.p) _ pv W (lies_below hl hW) hs hp (by simpa using hpx)).mono fun _ _ h => at_ok (at_val h0 xm) (place_at xm) h)
  have AY := Lib.hid (fun W (hW : Below w.heap.size w W) pv (hp : IntsLie W pv (pathInts y.p)) => (at_any f (pathInts y.p) _ pv W (lies_below hl hW) hs hp (by simpa using hpy)).mono fun _ _ h => at_ok (at_val h0 ym) (place_at ym) h)
  have PU := Lib.hid (fun W (hW : Below w.heap.size w W) pv aa ca ak ck (hp : IntsLie W pv (pathInts x.p)) (h1 : AttrsLie W (.slice aa th.ats.length ca) th.ats) (h2 : Lies W (.slice ak tk.len ck) tk) => tput_any f (pathInts x.p) th tk _ pv aa ca ak ck W (lies_below hl hW) hp (by simpa using hpx) h1 h2 hs ts)
  rw [pv1] at PU
  unfold aggOf at PU
  have hbn : bndErr (changeAt f q (setK g i th tk)) = 0 := by
    rw [pv1] at hbo
    rcases in_bnd (changeAt f q (setK g i th tk)) with ⟨h, -⟩ | h | h
    · exact h
    · rw [h] at hbo; cases hbo
    · rw [h] at hbo; cases hbo
  obtain ⟨z2, pg, pb⟩ := pv2 hbn
  have zw := one_ok (place_at xm) h0
  have gs := small_ok z2
  rw [show inBnd (changeAt f q (setK g i th tk)) = (changeAt f q (setK g i th tk), 0) by unfold inBnd; rw [if_pos hbn]] at PU
  have hne : pathInts x.p ≠ [] := by simpa using path_ne xm
  have hney : pathInts y.p ≠ [] := by simpa using path_ne ym
  have ap : atErr (changeAt f q (setK g i th tk)) (pathInts x.p) = 0 := by unfold atErr placeErr; rw [if_neg hne, pg, z2]; rfl
  have AG := Lib.hid (fun W u pv (h : Lies W u (changeAt f q (setK g i th tk))) (hp : IntsLie W pv (pathInts x.p)) => (at_any (changeAt f q (setK g i th tk)) (pathInts x.p) u pv W h gs hp (by simpa using hpx)).mono fun _ _ h => at_ok ap pg h)
  have PB := Lib.hid (fun W u pv aa ca ak ck (h : Lies W u (changeAt f q (setK g i th tk))) (hp : IntsLie W pv (pathInts x.p)) (h1 : AttrsLie W (.slice aa x.h.ats.length ca) x.h.ats) (h2 : Lies W (.slice ak x.ks.len ck) x.ks) => tput_any (changeAt f q (setK g i th tk)) (pathInts x.p) x.h x.ks u pv aa ca ak ck W h hp (by simpa using hpx) h1 h2 gs (small_ok zw))
  rw [pb] at PB
  unfold aggOf at PB
  have SR := Lib.hid (fun (F : Fo) x y W (h1 : Lies W x F) (h2 : Lies W y F) => same_refl F.size F (Nat.le_refl _) x y W h1 h2)
  have FL := Lib.hid (fun W (hW : Below w.heap.size w W) => lies_below hl hW)
  have AR := Lib.hid (fun W u u' (h1 : IntsLie W u (pathInts x.p)) (h2 : IntsLie W u' (pathInts y.p)) => around_any (pathInts x.p) (pathInts y.p) u u' W h1 h2 (by simpa using hpx))
  have hpre : ¬ (q ++ [i]) <+: y.p := fun h => by
    have := around_pre.2 h
    rw [← ep, har] at this
    cases this
  obtain ⟨k2, pgy, hk2⟩ := put_other q i y.p f th tk hg hn (place_at ym) hpre
  have apy : atErr (changeAt f q (setK g i th tk)) (pathInts y.p) = 0 := by unfold atErr placeErr; rw [if_neg hney, pgy, z2]; rfl
  have AGY := Lib.hid (fun W u pv (h : Lies W u (changeAt f q (setK g i th tk))) (hp : IntsLie W pv (pathInts y.p)) => (at_any (changeAt f q (setK g i th tk)) (pathInts y.p) u pv W h gs hp (by simpa using hpy)).mono fun _ _ h => at_ok apy pgy h)
  have SH := Lib.hid (fun (H : Hd) aa ca ab cb W (h1 : AttrsLie W (.slice aa H.ats.length ca) H.ats) (h2 : AttrsLie W (.slice ab H.ats.length cb) H.ats) => sameHead_refl H aa ca ab cb W h1 h2)
  unfold hdVal at SH
  have AR2 := Lib.hid (fun W u u' (h1 : IntsLie W u (pathInts y.p)) (h2 : IntsLie W u' (pathInts x.p)) => around_any (pathInts y.p) (pathInts x.p) u u' W h1 h2 (by simpa using hpy))
  rw [har2] at AR2
  rw [har] at AR
  have eZ : ((f.len : Int) == 0) = false := by simp; omega
  clear hl ha hk hf hf2 hx hy h0 t0 hs ts px py hsz hpx hpy hka hkb hma hmb hlen xm ym pv1 pv2 hg hn ep hbo hbn z2 pg pb zw gs hne hney ap har hpre pgy hk2 apy har2
  generalize changeAt f q (setK g i th tk) = G at *
  generalize x.p = xp at *
  generalize x.h = xh at *
  generalize x.ks = xk at *
  generalize y.p = yp at *
  generalize y.h = yh at *
  generalize y.ks = yk at *
  go_enter Tryz.func8, Tryz.ntmps8
  go_upto_region 1 with fail
  have kk := World.alloc_heap_new w (.cells #[.int .i64 th.k, .string ⟨th.l.toArray⟩, .slice aa0 th.ats.length ca0, .int .i64 th.n, .int .i64 th.d, .string ⟨th.x.toArray⟩, .slice ak0 tk.len ck0] 43)
  have hb1 : Below w.heap.size w (w.alloc (.cells #[.int .i64 th.k, .string ⟨th.l.toArray⟩, .slice aa0 th.ats.length ca0, .int .i64 th.n, .int .i64 th.d, .string ⟨th.x.toArray⟩, .slice ak0 tk.len ck0] 43)) := (Below.refl _ _).alloc (Nat.le_refl _) _
  have zt0 : w.heap.size < (w.alloc (.cells #[.int .i64 th.k, .string ⟨th.l.toArray⟩, .slice aa0 th.ats.length ca0, .int .i64 th.n, .int .i64 th.d, .string ⟨th.x.toArray⟩, .slice ak0 tk.len ck0] 43)).heap.size := by simp
  generalize w.alloc (.cells #[.int .i64 th.k, .string ⟨th.l.toArray⟩, .slice aa0 th.ats.length ca0, .int .i64 th.n, .int .i64 th.d, .string ⟨th.x.toArray⟩, .slice ak0 tk.len ck0] 43) = X1 at *
  have BX1 : Below w.heap.size w X1 := hb1
  have Kt0 := Lib.hid kk
  clear kk
  have HA := Lib.hid (attrs_below HA.out hb1)
  have HK := Lib.hid (lies_below HK.out hb1)
  obtain ⟨t0, ht⟩ : ∃ t, t = w.heap.size := ⟨_, rfl⟩
  rw [← ht] at Kt0 zt0
  have hpp : (Value.pointer (some ⟨w.heap.size, 0, none⟩)) = .pointer (some ⟨t0, 0, none⟩) := by rw [ht]
  rw [hpp]
  clear hpp ht hb1
  go_wp2_with fail
  refine (FF.out X1 BX1).mono ?_
  rintro e X2 ⟨rfl, hb2⟩
  have BX2 : Below w.heap.size w X2 := BX1.trans (hb2.mono BX1.size)
  have HA := Lib.hid (attrs_below HA.out hb2)
  have HK := Lib.hid (lies_below HK.out hb2)
  have Kt0 := Lib.hid ((hb2.block _ zt0).trans Kt0.out)
  have zt0 := Nat.lt_of_lt_of_le zt0 hb2.size
  clear hb2
  have d0 : X2.cell? ⟨t0, 0, none⟩ = some (.int .i64 th.k) := cell_of_block Kt0.out rfl
  have d1 : X2.cell? ⟨t0, 1, none⟩ = some (.string ⟨th.l.toArray⟩) := cell_of_block Kt0.out rfl
  have d2 : X2.cell? ⟨t0, 2, none⟩ = some (.slice aa0 th.ats.length ca0) := cell_of_block Kt0.out rfl
  have d3 : X2.cell? ⟨t0, 3, none⟩ = some (.int .i64 th.n) := cell_of_block Kt0.out rfl
  have d4 : X2.cell? ⟨t0, 4, none⟩ = some (.int .i64 th.d) := cell_of_block Kt0.out rfl
  have d5 : X2.cell? ⟨t0, 5, none⟩ = some (.string ⟨th.x.toArray⟩) := cell_of_block Kt0.out rfl
  have d6 : X2.cell? ⟨t0, 6, none⟩ = some (.slice ak0 tk.len ck0) := cell_of_block Kt0.out rfl
  have kk := World.alloc_heap_new X2 (.cells #[.int .i64 th.k, .string ⟨th.l.toArray⟩, .slice aa0 th.ats.length ca0, .int .i64 th.n, .int .i64 th.d, .string ⟨th.x.toArray⟩, .slice ak0 tk.len ck0] 43)
  have hb3 : Below X2.heap.size X2 (X2.alloc (.cells #[.int .i64 th.k, .string ⟨th.l.toArray⟩, .slice aa0 th.ats.length ca0, .int .i64 th.n, .int .i64 th.d, .string ⟨th.x.toArray⟩, .slice ak0 tk.len ck0] 43)) := (Below.refl _ _).alloc (Nat.le_refl _) _
  have HA := Lib.hid (attrs_below HA.out hb3)
  have HK := Lib.hid (lies_below HK.out hb3)
  have Kt0 := Lib.hid ((hb3.block _ zt0).trans Kt0.out)
  have zt0 := Nat.lt_of_lt_of_le zt0 hb3.size
  have LT := Lib.hid (lies_one kk HA.out HK.out)
  have BX3 : Below w.heap.size w (X2.alloc (.cells #[.int .i64 th.k, .string ⟨th.l.toArray⟩, .slice aa0 th.ats.length ca0, .int .i64 th.n, .int .i64 th.d, .string ⟨th.x.toArray⟩, .slice ak0 tk.len ck0] 43)) := BX2.trans (hb3.mono BX2.size)
  clear kk hb3
  go_wp2_with fail
  generalize X2.alloc (.cells #[.int .i64 th.k, .string ⟨th.l.toArray⟩, .slice aa0 th.ats.length ca0, .int .i64 th.n, .int .i64 th.d, .string ⟨th.x.toArray⟩, .slice ak0 tk.len ck0] 43) = X3 at *
  clear d0 d1 d2 d3 d4 d5 d6

  refine (FT.out X3 _ LT.out).mono ?_
  rintro e X4 ⟨rfl, hb4⟩
  have BX4 : Below w.heap.size w X4 := BX3.trans (hb4.mono BX3.size)
  have HA := Lib.hid (attrs_below HA.out hb4)
  have HK := Lib.hid (lies_below HK.out hb4)
  have Kt0 := Lib.hid ((hb4.block _ zt0).trans Kt0.out)
  have zt0 := Nat.lt_of_lt_of_le zt0 hb4.size
  clear LT
  clear hb4
  go_wp2_with fail
  refine (CX.out X4 BX4).mono ?_
  rintro e X5 ⟨aP, cP, rfl, hP, hb5⟩
  have BX5 : Below w.heap.size w X5 := BX4.trans (hb5.mono BX4.size)
  have HA := Lib.hid (attrs_below HA.out hb5)
  have HK := Lib.hid (lies_below HK.out hb5)
  have Kt0 := Lib.hid ((hb5.block _ zt0).trans Kt0.out)
  have zt0 := Nat.lt_of_lt_of_le zt0 hb5.size
  have HP := Lib.hid (intsF_lies hP)
  clear hP CX
  clear hb5
  go_wp2_with fail
  refine (CY.out X5 BX5).mono ?_
  rintro e X6 ⟨aQ, cQ, rfl, hQ, hb6⟩
  have BX6 : Below w.heap.size w X6 := BX5.trans (hb6.mono BX5.size)
  have HA := Lib.hid (attrs_below HA.out hb6)
  have HK := Lib.hid (lies_below HK.out hb6)
  have HP := Lib.hid (ints_below HP.out hb6)
  have Kt0 := Lib.hid ((hb6.block _ zt0).trans Kt0.out)
  have zt0 := Nat.lt_of_lt_of_le zt0 hb6.size
  have HQ := Lib.hid (intsF_lies hQ)
  clear hQ CY
  clear hb6
  go_wp2_with fail
  refine (AX.out X6 BX6 _ HP.out).mono ?_
  rintro e X7 ⟨aa1, ca1, ak1, ck1, rfl, hA, hK, hb7⟩
  have BX7 : Below w.heap.size w X7 := BX6.trans (hb7.mono BX6.size)
  have HA := Lib.hid (attrs_below HA.out hb7)
  have HK := Lib.hid (lies_below HK.out hb7)
  have HP := Lib.hid (ints_below HP.out hb7)
  have HQ := Lib.hid (ints_below HQ.out hb7)
  have Kt0 := Lib.hid ((hb7.block _ zt0).trans Kt0.out)
  have zt0 := Nat.lt_of_lt_of_le zt0 hb7.size
  unfold aggOf
  have HA1 := Lib.hid hA
  have HK1 := Lib.hid hK
  clear hA hK AX
  clear hb7
  go_upto_region 5 with fail
  have kk := World.alloc_heap_new X7 (.cells #[.int .i64 xh.k, .string ⟨xh.l.toArray⟩, .slice aa1 xh.ats.length ca1, .int .i64 xh.n, .int .i64 xh.d, .string ⟨xh.x.toArray⟩, .slice ak1 xk.len ck1] 43)
  have hb8 : Below X7.heap.size X7 (X7.alloc (.cells #[.int .i64 xh.k, .string ⟨xh.l.toArray⟩, .slice aa1 xh.ats.length ca1, .int .i64 xh.n, .int .i64 xh.d, .string ⟨xh.x.toArray⟩, .slice ak1 xk.len ck1] 43)) := (Below.refl _ _).alloc (Nat.le_refl _) _
  have zt1 : X7.heap.size < (X7.alloc (.cells #[.int .i64 xh.k, .string ⟨xh.l.toArray⟩, .slice aa1 xh.ats.length ca1, .int .i64 xh.n, .int .i64 xh.d, .string ⟨xh.x.toArray⟩, .slice ak1 xk.len ck1] 43)).heap.size := by simp
  generalize X7.alloc (.cells #[.int .i64 xh.k, .string ⟨xh.l.toArray⟩, .slice aa1 xh.ats.length ca1, .int .i64 xh.n, .int .i64 xh.d, .string ⟨xh.x.toArray⟩, .slice ak1 xk.len ck1] 43) = X8 at *
  have BX8 : Below w.heap.size w X8 := BX7.trans (hb8.mono BX7.size)
  have Kt1 := Lib.hid kk
  clear kk
  have HA := Lib.hid (attrs_below HA.out hb8)
  have HK := Lib.hid (lies_below HK.out hb8)
  have HP := Lib.hid (ints_below HP.out hb8)
  have HQ := Lib.hid (ints_below HQ.out hb8)
  have HA1 := Lib.hid (attrs_below HA1.out hb8)
  have HK1 := Lib.hid (lies_below HK1.out hb8)
  have Kt0 := Lib.hid ((hb8.block _ zt0).trans Kt0.out)
  have zt0 := Nat.lt_of_lt_of_le zt0 hb8.size
  obtain ⟨t1, ht⟩ : ∃ t, t = X7.heap.size := ⟨_, rfl⟩
  rw [← ht] at Kt1 zt1
  rw [← ht]
  clear ht hb8
  have d0 : X8.cell? ⟨t0, 0, none⟩ = some (.int .i64 th.k) := cell_of_block Kt0.out rfl
  have d1 : X8.cell? ⟨t0, 1, none⟩ = some (.string ⟨th.l.toArray⟩) := cell_of_block Kt0.out rfl
  have d2 : X8.cell? ⟨t0, 2, none⟩ = some (.slice aa0 th.ats.length ca0) := cell_of_block Kt0.out rfl
  have d3 : X8.cell? ⟨t0, 3, none⟩ = some (.int .i64 th.n) := cell_of_block Kt0.out rfl
  have d4 : X8.cell? ⟨t0, 4, none⟩ = some (.int .i64 th.d) := cell_of_block Kt0.out rfl
  have d5 : X8.cell? ⟨t0, 5, none⟩ = some (.string ⟨th.x.toArray⟩) := cell_of_block Kt0.out rfl
  have d6 : X8.cell? ⟨t0, 6, none⟩ = some (.slice ak0 tk.len ck0) := cell_of_block Kt0.out rfl
  go_wp2_with fail
  refine (PU.out X8 BX8 _ _ _ _ _ HP.out HA.out HK.out).mono ?_
  rintro e X9 ⟨v4, rfl, hG, hb9⟩
  have BX9 : Below w.heap.size w X9 := BX8.trans (hb9.mono BX8.size)
  have HA := Lib.hid (attrs_below HA.out hb9)
  have HK := Lib.hid (lies_below HK.out hb9)
  have HP := Lib.hid (ints_below HP.out hb9)
  have HQ := Lib.hid (ints_below HQ.out hb9)
  have HA1 := Lib.hid (attrs_below HA1.out hb9)
  have HK1 := Lib.hid (lies_below HK1.out hb9)
  have Kt0 := Lib.hid ((hb9.block _ zt0).trans Kt0.out)
  have zt0 := Nat.lt_of_lt_of_le zt0 hb9.size
  have Kt1 := Lib.hid ((hb9.block _ zt1).trans Kt1.out)
  have zt1 := Nat.lt_of_lt_of_le zt1 hb9.size
  have HG := Lib.hid (liesF_lies hG)
  obtain ⟨a4, c4, rfl⟩ := liesF_form hG
  clear hG PU
  clear hb9
  clear d0 d1 d2 d3 d4 d5 d6
  go_wp2_with fail
  refine (AG.out X9 _ _ HG.out HP.out).mono ?_
  rintro e X10 ⟨aa2, ca2, ak2, ck2, rfl, hA, hK, hb10⟩
  have BX10 : Below w.heap.size w X10 := BX9.trans (hb10.mono BX9.size)
  have HA := Lib.hid (attrs_below HA.out hb10)
  have HK := Lib.hid (lies_below HK.out hb10)
  have HP := Lib.hid (ints_below HP.out hb10)
  have HQ := Lib.hid (ints_below HQ.out hb10)
  have HA1 := Lib.hid (attrs_below HA1.out hb10)
  have HK1 := Lib.hid (lies_below HK1.out hb10)
  have HG := Lib.hid (lies_below HG.out hb10)
  have Kt0 := Lib.hid ((hb10.block _ zt0).trans Kt0.out)
  have zt0 := Nat.lt_of_lt_of_le zt0 hb10.size
  have Kt1 := Lib.hid ((hb10.block _ zt1).trans Kt1.out)
  have zt1 := Nat.lt_of_lt_of_le zt1 hb10.size
  unfold aggOf
  have HA2 := Lib.hid hA
  have HK2 := Lib.hid hK
  clear hA hK AG
  clear hb10
  go_upto_region 9 with fail
  have kk := World.alloc_heap_new X10 (.cells #[.int .i64 th.k, .string ⟨th.l.toArray⟩, .slice aa2 th.ats.length ca2, .int .i64 th.n, .int .i64 th.d, .string ⟨th.x.toArray⟩, .slice ak2 tk.len ck2] 43)
  have hb11 : Below X10.heap.size X10 (X10.alloc (.cells #[.int .i64 th.k, .string ⟨th.l.toArray⟩, .slice aa2 th.ats.length ca2, .int .i64 th.n, .int .i64 th.d, .string ⟨th.x.toArray⟩, .slice ak2 tk.len ck2] 43)) := (Below.refl _ _).alloc (Nat.le_refl _) _
  have zt2 : X10.heap.size < (X10.alloc (.cells #[.int .i64 th.k, .string ⟨th.l.toArray⟩, .slice aa2 th.ats.length ca2, .int .i64 th.n, .int .i64 th.d, .string ⟨th.x.toArray⟩, .slice ak2 tk.len ck2] 43)).heap.size := by simp
  generalize X10.alloc (.cells #[.int .i64 th.k, .string ⟨th.l.toArray⟩, .slice aa2 th.ats.length ca2, .int .i64 th.n, .int .i64 th.d, .string ⟨th.x.toArray⟩, .slice ak2 tk.len ck2] 43) = X11 at *
  have BX11 : Below w.heap.size w X11 := BX10.trans (hb11.mono BX10.size)
  have Kt2 := Lib.hid kk
  clear kk
  have HA := Lib.hid (attrs_below HA.out hb11)
  have HK := Lib.hid (lies_below HK.out hb11)
  have HP := Lib.hid (ints_below HP.out hb11)
  have HQ := Lib.hid (ints_below HQ.out hb11)
  have HA1 := Lib.hid (attrs_below HA1.out hb11)
  have HK1 := Lib.hid (lies_below HK1.out hb11)
  have HG := Lib.hid (lies_below HG.out hb11)
  have HA2 := Lib.hid (attrs_below HA2.out hb11)
  have HK2 := Lib.hid (lies_below HK2.out hb11)
  have Kt0 := Lib.hid ((hb11.block _ zt0).trans Kt0.out)
  have zt0 := Nat.lt_of_lt_of_le zt0 hb11.size
  have Kt1 := Lib.hid ((hb11.block _ zt1).trans Kt1.out)
  have zt1 := Nat.lt_of_lt_of_le zt1 hb11.size
  obtain ⟨t2, ht⟩ : ∃ t, t = X10.heap.size := ⟨_, rfl⟩
  rw [← ht] at Kt2 zt2
  rw [← ht]
  clear ht hb11
  have d0 : X11.cell? ⟨t2, 0, none⟩ = some (.int .i64 th.k) := cell_of_block Kt2.out rfl
  have d1 : X11.cell? ⟨t2, 1, none⟩ = some (.string ⟨th.l.toArray⟩) := cell_of_block Kt2.out rfl
  have d2 : X11.cell? ⟨t2, 2, none⟩ = some (.slice aa2 th.ats.length ca2) := cell_of_block Kt2.out rfl
  have d3 : X11.cell? ⟨t2, 3, none⟩ = some (.int .i64 th.n) := cell_of_block Kt2.out rfl
  have d4 : X11.cell? ⟨t2, 4, none⟩ = some (.int .i64 th.d) := cell_of_block Kt2.out rfl
  have d5 : X11.cell? ⟨t2, 5, none⟩ = some (.string ⟨th.x.toArray⟩) := cell_of_block Kt2.out rfl
  have d6 : X11.cell? ⟨t2, 6, none⟩ = some (.slice ak2 tk.len ck2) := cell_of_block Kt2.out rfl
  have c0 : X11.cell? ⟨t0, 0, none⟩ = some (.int .i64 th.k) := cell_of_block Kt0.out rfl
  have c1 : X11.cell? ⟨t0, 1, none⟩ = some (.string ⟨th.l.toArray⟩) := cell_of_block Kt0.out rfl
  have c2 : X11.cell? ⟨t0, 2, none⟩ = some (.slice aa0 th.ats.length ca0) := cell_of_block Kt0.out rfl
  have c3 : X11.cell? ⟨t0, 3, none⟩ = some (.int .i64 th.n) := cell_of_block Kt0.out rfl
  have c4 : X11.cell? ⟨t0, 4, none⟩ = some (.int .i64 th.d) := cell_of_block Kt0.out rfl
  have c5 : X11.cell? ⟨t0, 5, none⟩ = some (.string ⟨th.x.toArray⟩) := cell_of_block Kt0.out rfl
  have c6 : X11.cell? ⟨t0, 6, none⟩ = some (.slice ak0 tk.len ck0) := cell_of_block Kt0.out rfl
  have k8 := World.alloc_heap_new X11 (.cells #[.int .i64 th.k, .string ⟨th.l.toArray⟩, .slice aa2 th.ats.length ca2, .int .i64 th.n, .int .i64 th.d, .string ⟨th.x.toArray⟩, .slice ak2 tk.len ck2] 43)
  have ba8 : Below X11.heap.size X11 (X11.alloc (.cells #[.int .i64 th.k, .string ⟨th.l.toArray⟩, .slice aa2 th.ats.length ca2, .int .i64 th.n, .int .i64 th.d, .string ⟨th.x.toArray⟩, .slice ak2 tk.len ck2] 43)) := (Below.refl _ _).alloc (Nat.le_refl _) _
  have e8 : (X11.alloc (.cells #[.int .i64 th.k, .string ⟨th.l.toArray⟩, .slice aa2 th.ats.length ca2, .int .i64 th.n, .int .i64 th.d, .string ⟨th.x.toArray⟩, .slice ak2 tk.len ck2] 43)).heap.size = X11.heap.size + 1 := by simp
  have ba9 : Below (X11.alloc (.cells #[.int .i64 th.k, .string ⟨th.l.toArray⟩, .slice aa2 th.ats.length ca2, .int .i64 th.n, .int .i64 th.d, .string ⟨th.x.toArray⟩, .slice ak2 tk.len ck2] 43)).heap.size (X11.alloc (.cells #[.int .i64 th.k, .string ⟨th.l.toArray⟩, .slice aa2 th.ats.length ca2, .int .i64 th.n, .int .i64 th.d, .string ⟨th.x.toArray⟩, .slice ak2 tk.len ck2] 43)) ((X11.alloc (.cells #[.int .i64 th.k, .string ⟨th.l.toArray⟩, .slice aa2 th.ats.length ca2, .int .i64 th.n, .int .i64 th.d, .string ⟨th.x.toArray⟩, .slice ak2 tk.len ck2] 43)).alloc (.cells #[.int .i64 th.k, .string ⟨th.l.toArray⟩, .slice aa0 th.ats.length ca0, .int .i64 th.n, .int .i64 th.d, .string ⟨th.x.toArray⟩, .slice ak0 tk.len ck0] 43)) := (Below.refl _ _).alloc (Nat.le_refl _) _
  have k9 := World.alloc_heap_new (X11.alloc (.cells #[.int .i64 th.k, .string ⟨th.l.toArray⟩, .slice aa2 th.ats.length ca2, .int .i64 th.n, .int .i64 th.d, .string ⟨th.x.toArray⟩, .slice ak2 tk.len ck2] 43)) (.cells #[.int .i64 th.k, .string ⟨th.l.toArray⟩, .slice aa0 th.ats.length ca0, .int .i64 th.n, .int .i64 th.d, .string ⟨th.x.toArray⟩, .slice ak0 tk.len ck0] 43)
  have L1 := Lib.hid (lies_below (lies_one k8 (attrs_below HA2.out ba8) (lies_below HK2.out ba8)) ba9)
  have hb13 := ba8.trans (ba9.mono (by omega))
  have BX13 : Below w.heap.size w ((X11.alloc (.cells #[.int .i64 th.k, .string ⟨th.l.toArray⟩, .slice aa2 th.ats.length ca2, .int .i64 th.n, .int .i64 th.d, .string ⟨th.x.toArray⟩, .slice ak2 tk.len ck2] 43)).alloc (.cells #[.int .i64 th.k, .string ⟨th.l.toArray⟩, .slice aa0 th.ats.length ca0, .int .i64 th.n, .int .i64 th.d, .string ⟨th.x.toArray⟩, .slice ak0 tk.len ck0] 43)) := BX11.trans (hb13.mono BX11.size)
  have L2 := Lib.hid (lies_one k9 (attrs_below HA.out hb13) (lies_below HK.out hb13))
  rw [e8] at L2
  have HA := Lib.hid (attrs_below HA.out hb13)
  have HK := Lib.hid (lies_below HK.out hb13)
  have HP := Lib.hid (ints_below HP.out hb13)
  have HQ := Lib.hid (ints_below HQ.out hb13)
  have HA1 := Lib.hid (attrs_below HA1.out hb13)
  have HK1 := Lib.hid (lies_below HK1.out hb13)
  have HG := Lib.hid (lies_below HG.out hb13)
  have HA2 := Lib.hid (attrs_below HA2.out hb13)
  have HK2 := Lib.hid (lies_below HK2.out hb13)
  have Kt0 := Lib.hid ((hb13.block _ zt0).trans Kt0.out)
  have zt0 := Nat.lt_of_lt_of_le zt0 hb13.size
  have Kt1 := Lib.hid ((hb13.block _ zt1).trans Kt1.out)
  have zt1 := Nat.lt_of_lt_of_le zt1 hb13.size
  have Kt2 := Lib.hid ((hb13.block _ zt2).trans Kt2.out)
  have zt2 := Nat.lt_of_lt_of_le zt2 hb13.size
  clear k8 k9 ba8 ba9 e8 hb13
  go_wp2_with fail
  generalize (X11.alloc (.cells #[.int .i64 th.k, .string ⟨th.l.toArray⟩, .slice aa2 th.ats.length ca2, .int .i64 th.n, .int .i64 th.d, .string ⟨th.x.toArray⟩, .slice ak2 tk.len ck2] 43)).alloc (.cells #[.int .i64 th.k, .string ⟨th.l.toArray⟩, .slice aa0 th.ats.length ca0, .int .i64 th.n, .int .i64 th.d, .string ⟨th.x.toArray⟩, .slice ak0 tk.len ck0] 43) = X13 at *
  clear d0 d1 d2 d3 d4 d5 d6
  clear c0 c1 c2 c3 c4 c5 c6

  refine (SR.out _ _ _ X13 L1.out L2.out).mono ?_
  rintro e X14 ⟨rfl, hb14⟩
  have BX14 : Below w.heap.size w X14 := BX13.trans (hb14.mono BX13.size)
  have HA := Lib.hid (attrs_below HA.out hb14)
  have HK := Lib.hid (lies_below HK.out hb14)
  have HP := Lib.hid (ints_below HP.out hb14)
  have HQ := Lib.hid (ints_below HQ.out hb14)
  have HA1 := Lib.hid (attrs_below HA1.out hb14)
  have HK1 := Lib.hid (lies_below HK1.out hb14)
  have HG := Lib.hid (lies_below HG.out hb14)
  have HA2 := Lib.hid (attrs_below HA2.out hb14)
  have HK2 := Lib.hid (lies_below HK2.out hb14)
  have Kt0 := Lib.hid ((hb14.block _ zt0).trans Kt0.out)
  have zt0 := Nat.lt_of_lt_of_le zt0 hb14.size
  have Kt1 := Lib.hid ((hb14.block _ zt1).trans Kt1.out)
  have zt1 := Nat.lt_of_lt_of_le zt1 hb14.size
  have Kt2 := Lib.hid ((hb14.block _ zt2).trans Kt2.out)
  have zt2 := Nat.lt_of_lt_of_le zt2 hb14.size
  clear L1 L2
  clear hb14
  clear Kt2 zt2 Kt0 zt0
  clear HA2 HK2 HA HK
  go_wp2_with fail
  refine (AR.out X14 _ _ HP.out HQ.out).mono ?_
  rintro e X15 ⟨rfl, hb15⟩
  have BX15 : Below w.heap.size w X15 := BX14.trans (hb15.mono BX14.size)
  have HP := Lib.hid (ints_below HP.out hb15)
  have HQ := Lib.hid (ints_below HQ.out hb15)
  have HA1 := Lib.hid (attrs_below HA1.out hb15)
  have HK1 := Lib.hid (lies_below HK1.out hb15)
  have HG := Lib.hid (lies_below HG.out hb15)
  have Kt1 := Lib.hid ((hb15.block _ zt1).trans Kt1.out)
  have zt1 := Nat.lt_of_lt_of_le zt1 hb15.size
  clear hb15
  go_wp2_with fail
  refine (AY.out X15 BX15 _ HQ.out).mono ?_
  rintro e X16 ⟨aa3, ca3, ak3, ck3, rfl, hA, hK, hb16⟩
  have BX16 : Below w.heap.size w X16 := BX15.trans (hb16.mono BX15.size)
  have HP := Lib.hid (ints_below HP.out hb16)
  have HQ := Lib.hid (ints_below HQ.out hb16)
  have HA1 := Lib.hid (attrs_below HA1.out hb16)
  have HK1 := Lib.hid (lies_below HK1.out hb16)
  have HG := Lib.hid (lies_below HG.out hb16)
  have Kt1 := Lib.hid ((hb16.block _ zt1).trans Kt1.out)
  have zt1 := Nat.lt_of_lt_of_le zt1 hb16.size
  unfold aggOf
  have HA3 := Lib.hid hA
  have HK3 := Lib.hid hK
  clear hA hK AY
  clear hb16
  go_upto_region 13 with fail
  have kk := World.alloc_heap_new X16 (.cells #[.int .i64 yh.k, .string ⟨yh.l.toArray⟩, .slice aa3 yh.ats.length ca3, .int .i64 yh.n, .int .i64 yh.d, .string ⟨yh.x.toArray⟩, .slice ak3 yk.len ck3] 43)
  have hb17 : Below X16.heap.size X16 (X16.alloc (.cells #[.int .i64 yh.k, .string ⟨yh.l.toArray⟩, .slice aa3 yh.ats.length ca3, .int .i64 yh.n, .int .i64 yh.d, .string ⟨yh.x.toArray⟩, .slice ak3 yk.len ck3] 43)) := (Below.refl _ _).alloc (Nat.le_refl _) _
  have zt3 : X16.heap.size < (X16.alloc (.cells #[.int .i64 yh.k, .string ⟨yh.l.toArray⟩, .slice aa3 yh.ats.length ca3, .int .i64 yh.n, .int .i64 yh.d, .string ⟨yh.x.toArray⟩, .slice ak3 yk.len ck3] 43)).heap.size := by simp
  generalize X16.alloc (.cells #[.int .i64 yh.k, .string ⟨yh.l.toArray⟩, .slice aa3 yh.ats.length ca3, .int .i64 yh.n, .int .i64 yh.d, .string ⟨yh.x.toArray⟩, .slice ak3 yk.len ck3] 43) = X17 at *
  have BX17 : Below w.heap.size w X17 := BX16.trans (hb17.mono BX16.size)
  have Kt3 := Lib.hid kk
  clear kk
  have HP := Lib.hid (ints_below HP.out hb17)
  have HQ := Lib.hid (ints_below HQ.out hb17)
  have HA1 := Lib.hid (attrs_below HA1.out hb17)
  have HK1 := Lib.hid (lies_below HK1.out hb17)
  have HG := Lib.hid (lies_below HG.out hb17)
  have HA3 := Lib.hid (attrs_below HA3.out hb17)
  have HK3 := Lib.hid (lies_below HK3.out hb17)
  have Kt1 := Lib.hid ((hb17.block _ zt1).trans Kt1.out)
  have zt1 := Nat.lt_of_lt_of_le zt1 hb17.size
  obtain ⟨t3, ht⟩ : ∃ t, t = X16.heap.size := ⟨_, rfl⟩
  rw [← ht] at Kt3 zt3
  rw [← ht]
  clear ht hb17
  go_wp2_with fail
  refine (AGY.out X17 _ _ HG.out HQ.out).mono ?_
  rintro e X18 ⟨aa4, ca4, ak4, ck4, rfl, hA, hK, hb18⟩
  have BX18 : Below w.heap.size w X18 := BX17.trans (hb18.mono BX17.size)
  have HP := Lib.hid (ints_below HP.out hb18)
  have HQ := Lib.hid (ints_below HQ.out hb18)
  have HA1 := Lib.hid (attrs_below HA1.out hb18)
  have HK1 := Lib.hid (lies_below HK1.out hb18)
  have HG := Lib.hid (lies_below HG.out hb18)
  have HA3 := Lib.hid (attrs_below HA3.out hb18)
  have HK3 := Lib.hid (lies_below HK3.out hb18)
  have Kt1 := Lib.hid ((hb18.block _ zt1).trans Kt1.out)
  have zt1 := Nat.lt_of_lt_of_le zt1 hb18.size
  have Kt3 := Lib.hid ((hb18.block _ zt3).trans Kt3.out)
  have zt3 := Nat.lt_of_lt_of_le zt3 hb18.size
  unfold aggOf
  have HA4 := Lib.hid hA
  have HK4 := Lib.hid hK
  clear hA hK AGY
  clear hb18
  go_upto_region 14 with fail
  have kk := World.alloc_heap_new X18 (.cells #[.int .i64 yh.k, .string ⟨yh.l.toArray⟩, .slice aa4 yh.ats.length ca4, .int .i64 yh.n, .int .i64 yh.d, .string ⟨yh.x.toArray⟩, .slice ak4 k2.len ck4] 43)
  have hb19 : Below X18.heap.size X18 (X18.alloc (.cells #[.int .i64 yh.k, .string ⟨yh.l.toArray⟩, .slice aa4 yh.ats.length ca4, .int .i64 yh.n, .int .i64 yh.d, .string ⟨yh.x.toArray⟩, .slice ak4 k2.len ck4] 43)) := (Below.refl _ _).alloc (Nat.le_refl _) _
  have zt4 : X18.heap.size < (X18.alloc (.cells #[.int .i64 yh.k, .string ⟨yh.l.toArray⟩, .slice aa4 yh.ats.length ca4, .int .i64 yh.n, .int .i64 yh.d, .string ⟨yh.x.toArray⟩, .slice ak4 k2.len ck4] 43)).heap.size := by simp
  generalize X18.alloc (.cells #[.int .i64 yh.k, .string ⟨yh.l.toArray⟩, .slice aa4 yh.ats.length ca4, .int .i64 yh.n, .int .i64 yh.d, .string ⟨yh.x.toArray⟩, .slice ak4 k2.len ck4] 43) = X19 at *
  have BX19 : Below w.heap.size w X19 := BX18.trans (hb19.mono BX18.size)
  have Kt4 := Lib.hid kk
  clear kk
  have HP := Lib.hid (ints_below HP.out hb19)
  have HQ := Lib.hid (ints_below HQ.out hb19)
  have HA1 := Lib.hid (attrs_below HA1.out hb19)
  have HK1 := Lib.hid (lies_below HK1.out hb19)
  have HG := Lib.hid (lies_below HG.out hb19)
  have HA3 := Lib.hid (attrs_below HA3.out hb19)
  have HK3 := Lib.hid (lies_below HK3.out hb19)
  have HA4 := Lib.hid (attrs_below HA4.out hb19)
  have HK4 := Lib.hid (lies_below HK4.out hb19)
  have Kt1 := Lib.hid ((hb19.block _ zt1).trans Kt1.out)
  have zt1 := Nat.lt_of_lt_of_le zt1 hb19.size
  have Kt3 := Lib.hid ((hb19.block _ zt3).trans Kt3.out)
  have zt3 := Nat.lt_of_lt_of_le zt3 hb19.size
  obtain ⟨t4, ht⟩ : ∃ t, t = X18.heap.size := ⟨_, rfl⟩
  rw [← ht] at Kt4 zt4
  rw [← ht]
  clear ht hb19
  have d0 : X19.cell? ⟨t3, 0, none⟩ = some (.int .i64 yh.k) := cell_of_block Kt3.out rfl
  have d1 : X19.cell? ⟨t3, 1, none⟩ = some (.string ⟨yh.l.toArray⟩) := cell_of_block Kt3.out rfl
  have d2 : X19.cell? ⟨t3, 2, none⟩ = some (.slice aa3 yh.ats.length ca3) := cell_of_block Kt3.out rfl
  have d3 : X19.cell? ⟨t3, 3, none⟩ = some (.int .i64 yh.n) := cell_of_block Kt3.out rfl
  have d4 : X19.cell? ⟨t3, 4, none⟩ = some (.int .i64 yh.d) := cell_of_block Kt3.out rfl
  have d5 : X19.cell? ⟨t3, 5, none⟩ = some (.string ⟨yh.x.toArray⟩) := cell_of_block Kt3.out rfl
  have d6 : X19.cell? ⟨t3, 6, none⟩ = some (.slice ak3 yk.len ck3) := cell_of_block Kt3.out rfl
  have c0 : X19.cell? ⟨t4, 0, none⟩ = some (.int .i64 yh.k) := cell_of_block Kt4.out rfl
  have c1 : X19.cell? ⟨t4, 1, none⟩ = some (.string ⟨yh.l.toArray⟩) := cell_of_block Kt4.out rfl
  have c2 : X19.cell? ⟨t4, 2, none⟩ = some (.slice aa4 yh.ats.length ca4) := cell_of_block Kt4.out rfl
  have c3 : X19.cell? ⟨t4, 3, none⟩ = some (.int .i64 yh.n) := cell_of_block Kt4.out rfl
  have c4 : X19.cell? ⟨t4, 4, none⟩ = some (.int .i64 yh.d) := cell_of_block Kt4.out rfl
  have c5 : X19.cell? ⟨t4, 5, none⟩ = some (.string ⟨yh.x.toArray⟩) := cell_of_block Kt4.out rfl
  have c6 : X19.cell? ⟨t4, 6, none⟩ = some (.slice ak4 k2.len ck4) := cell_of_block Kt4.out rfl
  go_wp2_with fail
  refine (SH.out yh _ _ _ _ X19 HA3.out HA4.out).mono ?_
  rintro e X20 ⟨rfl, hb20⟩
  have BX20 : Below w.heap.size w X20 := BX19.trans (hb20.mono BX19.size)
  have HP := Lib.hid (ints_below HP.out hb20)
  have HQ := Lib.hid (ints_below HQ.out hb20)
  have HA1 := Lib.hid (attrs_below HA1.out hb20)
  have HK1 := Lib.hid (lies_below HK1.out hb20)
  have HG := Lib.hid (lies_below HG.out hb20)
  have HA3 := Lib.hid (attrs_below HA3.out hb20)
  have HK3 := Lib.hid (lies_below HK3.out hb20)
  have HA4 := Lib.hid (attrs_below HA4.out hb20)
  have HK4 := Lib.hid (lies_below HK4.out hb20)
  have Kt1 := Lib.hid ((hb20.block _ zt1).trans Kt1.out)
  have zt1 := Nat.lt_of_lt_of_le zt1 hb20.size
  have Kt3 := Lib.hid ((hb20.block _ zt3).trans Kt3.out)
  have zt3 := Nat.lt_of_lt_of_le zt3 hb20.size
  have Kt4 := Lib.hid ((hb20.block _ zt4).trans Kt4.out)
  have zt4 := Nat.lt_of_lt_of_le zt4 hb20.size
  clear hb20
  clear d0 d1 d2 d3 d4 d5 d6
  clear c0 c1 c2 c3 c4 c5 c6
  go_wp2_with fail
  refine (AR2.out X20 _ _ HQ.out HP.out).mono ?_
  rintro e X21 ⟨rfl, hb21⟩
  have BX21 : Below w.heap.size w X21 := BX20.trans (hb21.mono BX20.size)
  have HP := Lib.hid (ints_below HP.out hb21)
  have HQ := Lib.hid (ints_below HQ.out hb21)
  have HA1 := Lib.hid (attrs_below HA1.out hb21)
  have HK1 := Lib.hid (lies_below HK1.out hb21)
  have HG := Lib.hid (lies_below HG.out hb21)
  have HA3 := Lib.hid (attrs_below HA3.out hb21)
  have HK3 := Lib.hid (lies_below HK3.out hb21)
  have HA4 := Lib.hid (attrs_below HA4.out hb21)
  have HK4 := Lib.hid (lies_below HK4.out hb21)
  have Kt1 := Lib.hid ((hb21.block _ zt1).trans Kt1.out)
  have zt1 := Nat.lt_of_lt_of_le zt1 hb21.size
  have Kt3 := Lib.hid ((hb21.block _ zt3).trans Kt3.out)
  have zt3 := Nat.lt_of_lt_of_le zt3 hb21.size
  have Kt4 := Lib.hid ((hb21.block _ zt4).trans Kt4.out)
  have zt4 := Nat.lt_of_lt_of_le zt4 hb21.size
  clear hb21
  clear Kt3 zt3 Kt4 zt4
  clear HA3 HK3 HA4 HK4
  have d0 : X21.cell? ⟨t1, 0, none⟩ = some (.int .i64 xh.k) := cell_of_block Kt1.out rfl
  have d1 : X21.cell? ⟨t1, 1, none⟩ = some (.string ⟨xh.l.toArray⟩) := cell_of_block Kt1.out rfl
  have d2 : X21.cell? ⟨t1, 2, none⟩ = some (.slice aa1 xh.ats.length ca1) := cell_of_block Kt1.out rfl
  have d3 : X21.cell? ⟨t1, 3, none⟩ = some (.int .i64 xh.n) := cell_of_block Kt1.out rfl
  have d4 : X21.cell? ⟨t1, 4, none⟩ = some (.int .i64 xh.d) := cell_of_block Kt1.out rfl
  have d5 : X21.cell? ⟨t1, 5, none⟩ = some (.string ⟨xh.x.toArray⟩) := cell_of_block Kt1.out rfl
  have d6 : X21.cell? ⟨t1, 6, none⟩ = some (.slice ak1 xk.len ck1) := cell_of_block Kt1.out rfl
  go_wp2_with fail
  refine (PB.out X21 _ _ _ _ _ _ HG.out HP.out HA1.out HK1.out).mono ?_
  rintro e X22 ⟨v5, rfl, hH, hb22⟩
  have BX22 : Below w.heap.size w X22 := BX21.trans (hb22.mono BX21.size)
  have HP := Lib.hid (ints_below HP.out hb22)
  have HQ := Lib.hid (ints_below HQ.out hb22)
  have HA1 := Lib.hid (attrs_below HA1.out hb22)
  have HK1 := Lib.hid (lies_below HK1.out hb22)
  have HG := Lib.hid (lies_below HG.out hb22)
  have Kt1 := Lib.hid ((hb22.block _ zt1).trans Kt1.out)
  have zt1 := Nat.lt_of_lt_of_le zt1 hb22.size
  have HH := Lib.hid (liesF_lies hH)
  obtain ⟨a5, c5, rfl⟩ := liesF_form hH
  clear hH PB
  clear hb22
  clear d0 d1 d2 d3 d4 d5 d6
  go_wp2_with fail
  refine (SR.out _ _ _ X22 HH.out (FL.out X22 BX22)).mono ?_
  rintro e X23 ⟨rfl, hb23⟩
  have BX23 : Below w.heap.size w X23 := BX22.trans (hb23.mono BX22.size)
  have HP := Lib.hid (ints_below HP.out hb23)
  have HQ := Lib.hid (ints_below HQ.out hb23)
  have HA1 := Lib.hid (attrs_below HA1.out hb23)
  have HK1 := Lib.hid (lies_below HK1.out hb23)
  have HG := Lib.hid (lies_below HG.out hb23)
  have Kt1 := Lib.hid ((hb23.block _ zt1).trans Kt1.out)
  have zt1 := Nat.lt_of_lt_of_le zt1 hb23.size
  clear hb23
  go_wp2_with fail
  refine (GR.out _).mono ?_
  rintro e X24 ⟨rfl, hb24⟩
  have BX24 : Below w.heap.size w X24 := BX23.trans (hb24.mono BX23.size)
  have HP := Lib.hid (ints_below HP.out hb24)
  have HQ := Lib.hid (ints_below HQ.out hb24)
  have HA1 := Lib.hid (attrs_below HA1.out hb24)
  have HK1 := Lib.hid (lies_below HK1.out hb24)
  have HG := Lib.hid (lies_below HG.out hb24)
  have Kt1 := Lib.hid ((hb24.block _ zt1).trans Kt1.out)
  have zt1 := Nat.lt_of_lt_of_le zt1 hb24.size
  clear hb24
  go_wp2_with fail
  go_ret
  exact ⟨rfl, BX24⟩

set_option maxRecDepth 100000 in
set_option maxHeartbeats 8000000 in
theorem tput_far (f : Fo) (v : Value) (th : Hd) (tk : Fo) (va vk : Value) (a b : Nat) (w : World) (hl : Lies w v f) (ha : AttrsLie w va th.ats) (hk : Lies w vk tk) (ka kb : Nat) (x y : Vis) (hf : fitB f = true) (hf2 : fitB (.cons th tk .nil) = true) (hlen : f.len ≠ 0) (hma : a ≤ 65535) (hmb : b ≤ 65535) (hx : (seqAt [] 0 f)[ka]? = some x) (hy : (seqAt [] 0 f)[kb]? = some y) (hka : Int.tmod (a : Int) (f.size : Int) = (ka : Int)) (hkb : Int.tmod (b : Int) (f.size : Int) = (kb : Int))
    (hbo : (putV f (pathInts x.p) (.cons th tk .nil)).2 = 0) (har : aroundB (pathInts x.p) (pathInts y.p) = false) (har2 : aroundB (pathInts y.p) (pathInts x.p) = false) :
    Calls Tryz.prog 8 #[v, treeA th va vk, .int .u16 (a : Int), .int .u16 (b : Int)] w fun e w' => e = .returned (.bool true) ∧ Below w.heap.size w w' := by
  have GR := Lib.hid (fun w => grown_any w)
  have FF := Lib.hid (fun W (hW : Below w.heap.size w W) => fit_any f v W (lies_below hl hW))
  have FT := Lib.hid (fun W y (h : Lies W y (.cons th tk .nil)) => fit_any (.cons th tk .nil) y W h)
  have HA := Lib.hid ha
  have HK := Lib.hid hk
  have BX0 := Below.refl w.heap.size w
  obtain ⟨av, cv, rfl⟩ := lies_form hl
  obtain ⟨aa0, ca0, rfl⟩ := attrs_form ha
  obtain ⟨ak0, ck0, rfl⟩ := lies_form hk
  unfold treeA
  have h0 := (fit_parts hf).2
  have t0 := (fit_parts hf2).2
  have hs := small_ok h0
  have ts := small_ok t0
  rw [hf] at FF
  rw [hf2] at FT
  obtain ⟨q, i, g, ep, hg, hn⟩ := vis_split (List.mem_of_getElem? hx)
  have xm := List.mem_of_getElem? hx
  have ym := List.mem_of_getElem? hy
  obtain ⟨pv1, pv2⟩ := put_vals h0 t0 hg hn
  rw [← ep] at pv1 pv2
  have px := path_len xm
  have py := path_len ym
  have hsz := hs.size
  simp only [List.length_nil, Nat.zero_add] at px py
  have hpx : x.p.length ≤ 1000000 := by omega
  have hpy : y.p.length ≤ 1000000 := by omega
  have CX := Lib.hid (fun W (hW : Below w.heap.size w W) => chosen_any f _ a ka x W (lies_below hl hW) hs.size hma hx hka)
  have CY := Lib.hid (fun W (hW : Below w.heap.size w W) => chosen_any f _ b kb y W (lies_below hl hW) hs.size hmb hy hkb)
  have AX := Lib.hid (fun W (hW : Below w.heap.size w W) pv (hp : IntsLie W pv (pathInts x.p)) => (at_any f (pathInts x.p) _ pv W (lies_below hl hW) hs hp (by simpa using hpx)).mono fun _ _ h => at_ok (at_val h0 xm) (place_at xm) h)
  have AY := Lib.hid (fun W (hW : Below w.heap.size w W) pv (hp : IntsLie W pv (pathInts y.p)) => (at_any f (pathInts y.p) _ pv W (lies_below hl hW) hs hp (by simpa using hpy)).mono fun _ _ h => at_ok (at_val h0 ym) (place_at ym) h)
  have PU := Lib.hid (fun W (hW : Below w.heap.size w W) pv aa ca ak ck (hp : IntsLie W pv (pathInts x.p)) (h1 : AttrsLie W (.slice aa th.ats.length ca) th.ats) (h2 : Lies W (.slice ak tk.len ck) tk) => tput_any f (pathInts x.p) th tk _ pv aa ca ak ck W (lies_below hl hW) hp (by simpa using hpx) h1 h2 hs ts)
  rw [pv1] at PU
  unfold aggOf at PU
  have hbn : bndErr (changeAt f q (setK g i th tk)) = 0 := by
    rw [pv1] at hbo
    rcases in_bnd (changeAt f q (setK g i th tk)) with ⟨h, -⟩ | h | h
    · exact h
    · rw [h] at hbo; cases hbo
    · rw [h] at hbo; cases hbo
  obtain ⟨z2, pg, pb⟩ := pv2 hbn
  have zw := one_ok (place_at xm) h0
  have gs := small_ok z2
  rw [show inBnd (changeAt f q (setK g i th tk)) = (changeAt f q (setK g i th tk), 0) by unfold inBnd; rw [if_pos hbn]] at PU
  have hne : pathInts x.p ≠ [] := by simpa using path_ne xm
  have hney : pathInts y.p ≠ [] := by simpa using path_ne ym
  have ap : atErr (changeAt f q (setK g i th tk)) (pathInts x.p) = 0 := by unfold atErr placeErr; rw [if_neg hne, pg, z2]; rfl
  have AG := Lib.hid (fun W u pv (h : Lies W u (changeAt f q (setK g i th tk))) (hp : IntsLie W pv (pathInts x.p)) => (at_any (changeAt f q (setK g i th tk)) (pathInts x.p) u pv W h gs hp (by simpa using hpx)).mono fun _ _ h => at_ok ap pg h)
  have PB := Lib.hid (fun W u pv aa ca ak ck (h : Lies W u (changeAt f q (setK g i th tk))) (hp : IntsLie W pv (pathInts x.p)) (h1 : AttrsLie W (.slice aa x.h.ats.length ca) x.h.ats) (h2 : Lies W (.slice ak x.ks.len ck) x.ks) => tput_any (changeAt f q (setK g i th tk)) (pathInts x.p) x.h x.ks u pv aa ca ak ck W h hp (by simpa using hpx) h1 h2 gs (small_ok zw))
  rw [pb] at PB
  unfold aggOf at PB
  have SR := Lib.hid (fun (F : Fo) x y W (h1 : Lies W x F) (h2 : Lies W y F) => same_refl F.size F (Nat.le_refl _) x y W h1 h2)
  have FL := Lib.hid (fun W (hW : Below w.heap.size w W) => lies_below hl hW)
  have AR := Lib.hid (fun W u u' (h1 : IntsLie W u (pathInts x.p)) (h2 : IntsLie W u' (pathInts y.p)) => around_any (pathInts x.p) (pathInts y.p) u u' W h1 h2 (by simpa using hpx))
  have hpre : ¬ (q ++ [i]) <+: y.p := fun h => by
    have := around_pre.2 h
    rw [← ep, har] at this
    cases this
  obtain ⟨k2, pgy, hk2⟩ := put_other q i y.p f th tk hg hn (place_at ym) hpre
  have apy : atErr (changeAt f q (setK g i th tk)) (pathInts y.p) = 0 := by unfold atErr placeErr; rw [if_neg hney, pgy, z2]; rfl
  have AGY := Lib.hid (fun W u pv (h : Lies W u (changeAt f q (setK g i th tk))) (hp : IntsLie W pv (pathInts y.p)) => (at_any (changeAt f q (setK g i th tk)) (pathInts y.p) u pv W h gs hp (by simpa using hpy)).mono fun _ _ h => at_ok apy pgy h)
  have SH := Lib.hid (fun (H : Hd) aa ca ab cb W (h1 : AttrsLie W (.slice aa H.ats.length ca) H.ats) (h2 : AttrsLie W (.slice ab H.ats.length cb) H.ats) => sameHead_refl H aa ca ab cb W h1 h2)
  unfold hdVal at SH
  have AR2 := Lib.hid (fun W u u' (h1 : IntsLie W u (pathInts y.p)) (h2 : IntsLie W u' (pathInts x.p)) => around_any (pathInts y.p) (pathInts x.p) u u' W h1 h2 (by simpa using hpy))
  rw [har2] at AR2
  obtain rfl : k2 = y.ks := hk2 fun h => by
    rw [← ep] at h
    rw [around_pre.2 h] at har2
    cases har2
  rw [har] at AR
  have eZ : ((f.len : Int) == 0) = false := by simp; omega
  clear hl ha hk hf hf2 hx hy h0 t0 hs ts px py hsz hpx hpy hka hkb hma hmb hlen xm ym pv1 pv2 hg hn ep hbo hbn z2 pg pb zw gs hne hney ap har hpre pgy hk2 apy har2
  generalize changeAt f q (setK g i th tk) = G at *
  generalize x.p = xp at *
  generalize x.h = xh at *
  generalize x.ks = xk at *
  generalize y.p = yp at *
  generalize y.h = yh at *
  generalize y.ks = yk at *
  go_enter Tryz.func8, Tryz.ntmps8
  go_upto_region 1 with fail
  have kk := World.alloc_heap_new w (.cells #[.int .i64 th.k, .string ⟨th.l.toArray⟩, .slice aa0 th.ats.length ca0, .int .i64 th.n, .int .i64 th.d, .string ⟨th.x.toArray⟩, .slice ak0 tk.len ck0] 43)
  have hb1 : Below w.heap.size w (w.alloc (.cells #[.int .i64 th.k, .string ⟨th.l.toArray⟩, .slice aa0 th.ats.length ca0, .int .i64 th.n, .int .i64 th.d, .string ⟨th.x.toArray⟩, .slice ak0 tk.len ck0] 43)) := (Below.refl _ _).alloc (Nat.le_refl _) _
  have zt0 : w.heap.size < (w.alloc (.cells #[.int .i64 th.k, .string ⟨th.l.toArray⟩, .slice aa0 th.ats.length ca0, .int .i64 th.n, .int .i64 th.d, .string ⟨th.x.toArray⟩, .slice ak0 tk.len ck0] 43)).heap.size := by simp
  generalize w.alloc (.cells #[.int .i64 th.k, .string ⟨th.l.toArray⟩, .slice aa0 th.ats.length ca0, .int .i64 th.n, .int .i64 th.d, .string ⟨th.x.toArray⟩, .slice ak0 tk.len ck0] 43) = X1 at *
  have BX1 : Below w.heap.size w X1 := hb1
  have Kt0 := Lib.hid kk
  clear kk
  have HA := Lib.hid (attrs_below HA.out hb1)
  have HK := Lib.hid (lies_below HK.out hb1)
  obtain ⟨t0, ht⟩ : ∃ t, t = w.heap.size := ⟨_, rfl⟩
  rw [← ht] at Kt0 zt0
  have hpp : (Value.pointer (some ⟨w.heap.size, 0, none⟩)) = .pointer (some ⟨t0, 0, none⟩) := by rw [ht]
  rw [hpp]
  clear hpp ht hb1
  go_wp2_with fail
  refine (FF.out X1 BX1).mono ?_
  rintro e X2 ⟨rfl, hb2⟩
  have BX2 : Below w.heap.size w X2 := BX1.trans (hb2.mono BX1.size)
  have HA := Lib.hid (attrs_below HA.out hb2)
  have HK := Lib.hid (lies_below HK.out hb2)
  have Kt0 := Lib.hid ((hb2.block _ zt0).trans Kt0.out)
  have zt0 := Nat.lt_of_lt_of_le zt0 hb2.size
  clear hb2
  have d0 : X2.cell? ⟨t0, 0, none⟩ = some (.int .i64 th.k) := cell_of_block Kt0.out rfl
  have d1 : X2.cell? ⟨t0, 1, none⟩ = some (.string ⟨th.l.toArray⟩) := cell_of_block Kt0.out rfl
  have d2 : X2.cell? ⟨t0, 2, none⟩ = some (.slice aa0 th.ats.length ca0) := cell_of_block Kt0.out rfl
  have d3 : X2.cell? ⟨t0, 3, none⟩ = some (.int .i64 th.n) := cell_of_block Kt0.out rfl
  have d4 : X2.cell? ⟨t0, 4, none⟩ = some (.int .i64 th.d) := cell_of_block Kt0.out rfl
  have d5 : X2.cell? ⟨t0, 5, none⟩ = some (.string ⟨th.x.toArray⟩) := cell_of_block Kt0.out rfl
  have d6 : X2.cell? ⟨t0, 6, none⟩ = some (.slice ak0 tk.len ck0) := cell_of_block Kt0.out rfl
  have kk := World.alloc_heap_new X2 (.cells #[.int .i64 th.k, .string ⟨th.l.toArray⟩, .slice aa0 th.ats.length ca0, .int .i64 th.n, .int .i64 th.d, .string ⟨th.x.toArray⟩, .slice ak0 tk.len ck0] 43)
  have hb3 : Below X2.heap.size X2 (X2.alloc (.cells #[.int .i64 th.k, .string ⟨th.l.toArray⟩, .slice aa0 th.ats.length ca0, .int .i64 th.n, .int .i64 th.d, .string ⟨th.x.toArray⟩, .slice ak0 tk.len ck0] 43)) := (Below.refl _ _).alloc (Nat.le_refl _) _
  have HA := Lib.hid (attrs_below HA.out hb3)
  have HK := Lib.hid (lies_below HK.out hb3)
  have Kt0 := Lib.hid ((hb3.block _ zt0).trans Kt0.out)
  have zt0 := Nat.lt_of_lt_of_le zt0 hb3.size
  have LT := Lib.hid (lies_one kk HA.out HK.out)
  have BX3 : Below w.heap.size w (X2.alloc (.cells #[.int .i64 th.k, .string ⟨th.l.toArray⟩, .slice aa0 th.ats.length ca0, .int .i64 th.n, .int .i64 th.d, .string ⟨th.x.toArray⟩, .slice ak0 tk.len ck0] 43)) := BX2.trans (hb3.mono BX2.size)
  clear kk hb3
  go_wp2_with fail
  generalize X2.alloc (.cells #[.int .i64 th.k, .string ⟨th.l.toArray⟩, .slice aa0 th.ats.length ca0, .int .i64 th.n, .int .i64 th.d, .string ⟨th.x.toArray⟩, .slice ak0 tk.len ck0] 43) = X3 at *
  clear d0 d1 d2 d3 d4 d5 d6

  refine (FT.out X3 _ LT.out).mono ?_
  rintro e X4 ⟨rfl, hb4⟩
  have BX4 : Below w.heap.size w X4 := BX3.trans (hb4.mono BX3.size)
  have HA := Lib.hid (attrs_below HA.out hb4)
  have HK := Lib.hid (lies_below HK.out hb4)
  have Kt0 := Lib.hid ((hb4.block _ zt0).trans Kt0.out)
  have zt0 := Nat.lt_of_lt_of_le zt0 hb4.size
  clear LT
  clear hb4
  go_wp2_with fail
  refine (CX.out X4 BX4).mono ?_
  rintro e X5 ⟨aP, cP, rfl, hP, hb5⟩
  have BX5 : Below w.heap.size w X5 := BX4.trans (hb5.mono BX4.size)
  have HA := Lib.hid (attrs_below HA.out hb5)
  have HK := Lib.hid (lies_below HK.out hb5)
  have Kt0 := Lib.hid ((hb5.block _ zt0).trans Kt0.out)
  have zt0 := Nat.lt_of_lt_of_le zt0 hb5.size
  have HP := Lib.hid (intsF_lies hP)
  clear hP CX
  clear hb5
  go_wp2_with fail
  refine (CY.out X5 BX5).mono ?_
  rintro e X6 ⟨aQ, cQ, rfl, hQ, hb6⟩
  have BX6 : Below w.heap.size w X6 := BX5.trans (hb6.mono BX5.size)
  have HA := Lib.hid (attrs_below HA.out hb6)
  have HK := Lib.hid (lies_below HK.out hb6)
  have HP := Lib.hid (ints_below HP.out hb6)
  have Kt0 := Lib.hid ((hb6.block _ zt0).trans Kt0.out)
  have zt0 := Nat.lt_of_lt_of_le zt0 hb6.size
  have HQ := Lib.hid (intsF_lies hQ)
  clear hQ CY
  clear hb6
  go_wp2_with fail
  refine (AX.out X6 BX6 _ HP.out).mono ?_
  rintro e X7 ⟨aa1, ca1, ak1, ck1, rfl, hA, hK, hb7⟩
  have BX7 : Below w.heap.size w X7 := BX6.trans (hb7.mono BX6.size)
  have HA := Lib.hid (attrs_below HA.out hb7)
  have HK := Lib.hid (lies_below HK.out hb7)
  have HP := Lib.hid (ints_below HP.out hb7)
  have HQ := Lib.hid (ints_below HQ.out hb7)
  have Kt0 := Lib.hid ((hb7.block _ zt0).trans Kt0.out)
  have zt0 := Nat.lt_of_lt_of_le zt0 hb7.size
  unfold aggOf
  have HA1 := Lib.hid hA
  have HK1 := Lib.hid hK
  clear hA hK AX
  clear hb7
  go_upto_region 5 with fail
  have kk := World.alloc_heap_new X7 (.cells #[.int .i64 xh.k, .string ⟨xh.l.toArray⟩, .slice aa1 xh.ats.length ca1, .int .i64 xh.n, .int .i64 xh.d, .string ⟨xh.x.toArray⟩, .slice ak1 xk.len ck1] 43)
  have hb8 : Below X7.heap.size X7 (X7.alloc (.cells #[.int .i64 xh.k, .string ⟨xh.l.toArray⟩, .slice aa1 xh.ats.length ca1, .int .i64 xh.n, .int .i64 xh.d, .string ⟨xh.x.toArray⟩, .slice ak1 xk.len ck1] 43)) := (Below.refl _ _).alloc (Nat.le_refl _) _
  have zt1 : X7.heap.size < (X7.alloc (.cells #[.int .i64 xh.k, .string ⟨xh.l.toArray⟩, .slice aa1 xh.ats.length ca1, .int .i64 xh.n, .int .i64 xh.d, .string ⟨xh.x.toArray⟩, .slice ak1 xk.len ck1] 43)).heap.size := by simp
  generalize X7.alloc (.cells #[.int .i64 xh.k, .string ⟨xh.l.toArray⟩, .slice aa1 xh.ats.length ca1, .int .i64 xh.n, .int .i64 xh.d, .string ⟨xh.x.toArray⟩, .slice ak1 xk.len ck1] 43) = X8 at *
  have BX8 : Below w.heap.size w X8 := BX7.trans (hb8.mono BX7.size)
  have Kt1 := Lib.hid kk
  clear kk
  have HA := Lib.hid (attrs_below HA.out hb8)
  have HK := Lib.hid (lies_below HK.out hb8)
  have HP := Lib.hid (ints_below HP.out hb8)
  have HQ := Lib.hid (ints_below HQ.out hb8)
  have HA1 := Lib.hid (attrs_below HA1.out hb8)
  have HK1 := Lib.hid (lies_below HK1.out hb8)
  have Kt0 := Lib.hid ((hb8.block _ zt0).trans Kt0.out)
  have zt0 := Nat.lt_of_lt_of_le zt0 hb8.size
  obtain ⟨t1, ht⟩ : ∃ t, t = X7.heap.size := ⟨_, rfl⟩
  rw [← ht] at Kt1 zt1
  rw [← ht]
  clear ht hb8
  have d0 : X8.cell? ⟨t0, 0, none⟩ = some (.int .i64 th.k) := cell_of_block Kt0.out rfl
  have d1 : X8.cell? ⟨t0, 1, none⟩ = some (.string ⟨th.l.toArray⟩) := cell_of_block Kt0.out rfl
  have d2 : X8.cell? ⟨t0, 2, none⟩ = some (.slice aa0 th.ats.length ca0) := cell_of_block Kt0.out rfl
  have d3 : X8.cell? ⟨t0, 3, none⟩ = some (.int .i64 th.n) := cell_of_block Kt0.out rfl
  have d4 : X8.cell? ⟨t0, 4, none⟩ = some (.int .i64 th.d) := cell_of_block Kt0.out rfl
  have d5 : X8.cell? ⟨t0, 5, none⟩ = some (.string ⟨th.x.toArray⟩) := cell_of_block Kt0.out rfl
  have d6 : X8.cell? ⟨t0, 6, none⟩ = some (.slice ak0 tk.len ck0) := cell_of_block Kt0.out rfl
  go_wp2_with fail
  refine (PU.out X8 BX8 _ _ _ _ _ HP.out HA.out HK.out).mono ?_
  rintro e X9 ⟨v4, rfl, hG, hb9⟩
  have BX9 : Below w.heap.size w X9 := BX8.trans (hb9.mono BX8.size)
  have HA := Lib.hid (attrs_below HA.out hb9)
  have HK := Lib.hid (lies_below HK.out hb9)
  have HP := Lib.hid (ints_below HP.out hb9)
  have HQ := Lib.hid (ints_below HQ.out hb9)
  have HA1 := Lib.hid (attrs_below HA1.out hb9)
  have HK1 := Lib.hid (lies_below HK1.out hb9)
  have Kt0 := Lib.hid ((hb9.block _ zt0).trans Kt0.out)
  have zt0 := Nat.lt_of_lt_of_le zt0 hb9.size
  have Kt1 := Lib.hid ((hb9.block _ zt1).trans Kt1.out)
  have zt1 := Nat.lt_of_lt_of_le zt1 hb9.size
  have HG := Lib.hid (liesF_lies hG)
  obtain ⟨a4, c4, rfl⟩ := liesF_form hG
  clear hG PU
  clear hb9
  clear d0 d1 d2 d3 d4 d5 d6
  go_wp2_with fail
  refine (AG.out X9 _ _ HG.out HP.out).mono ?_
  rintro e X10 ⟨aa2, ca2, ak2, ck2, rfl, hA, hK, hb10⟩
  have BX10 : Below w.heap.size w X10 := BX9.trans (hb10.mono BX9.size)
  have HA := Lib.hid (attrs_below HA.out hb10)
  have HK := Lib.hid (lies_below HK.out hb10)
  have HP := Lib.hid (ints_below HP.out hb10)
  have HQ := Lib.hid (ints_below HQ.out hb10)
  have HA1 := Lib.hid (attrs_below HA1.out hb10)
  have HK1 := Lib.hid (lies_below HK1.out hb10)
  have HG := Lib.hid (lies_below HG.out hb10)
  have Kt0 := Lib.hid ((hb10.block _ zt0).trans Kt0.out)
  have zt0 := Nat.lt_of_lt_of_le zt0 hb10.size
  have Kt1 := Lib.hid ((hb10.block _ zt1).trans Kt1.out)
  have zt1 := Nat.lt_of_lt_of_le zt1 hb10.size
  unfold aggOf
  have HA2 := Lib.hid hA
  have HK2 := Lib.hid hK
  clear hA hK AG
  clear hb10
  go_upto_region 9 with fail
  have kk := World.alloc_heap_new X10 (.cells #[.int .i64 th.k, .string ⟨th.l.toArray⟩, .slice aa2 th.ats.length ca2, .int .i64 th.n, .int .i64 th.d, .string ⟨th.x.toArray⟩, .slice ak2 tk.len ck2] 43)
  have hb11 : Below X10.heap.size X10 (X10.alloc (.cells #[.int .i64 th.k, .string ⟨th.l.toArray⟩, .slice aa2 th.ats.length ca2, .int .i64 th.n, .int .i64 th.d, .string ⟨th.x.toArray⟩, .slice ak2 tk.len ck2] 43)) := (Below.refl _ _).alloc (Nat.le_refl _) _
  have zt2 : X10.heap.size < (X10.alloc (.cells #[.int .i64 th.k, .string ⟨th.l.toArray⟩, .slice aa2 th.ats.length ca2, .int .i64 th.n, .int .i64 th.d, .string ⟨th.x.toArray⟩, .slice ak2 tk.len ck2] 43)).heap.size := by simp
  generalize X10.alloc (.cells #[.int .i64 th.k, .string ⟨th.l.toArray⟩, .slice aa2 th.ats.length ca2, .int .i64 th.n, .int .i64 th.d, .string ⟨th.x.toArray⟩, .slice ak2 tk.len ck2] 43) = X11 at *
  have BX11 : Below w.heap.size w X11 := BX10.trans (hb11.mono BX10.size)
  have Kt2 := Lib.hid kk
  clear kk
  have HA := Lib.hid (attrs_below HA.out hb11)
  have HK := Lib.hid (lies_below HK.out hb11)
  have HP := Lib.hid (ints_below HP.out hb11)
  have HQ := Lib.hid (ints_below HQ.out hb11)
  have HA1 := Lib.hid (attrs_below HA1.out hb11)
  have HK1 := Lib.hid (lies_below HK1.out hb11)
  have HG := Lib.hid (lies_below HG.out hb11)
  have HA2 := Lib.hid (attrs_below HA2.out hb11)
  have HK2 := Lib.hid (lies_below HK2.out hb11)
  have Kt0 := Lib.hid ((hb11.block _ zt0).trans Kt0.out)
  have zt0 := Nat.lt_of_lt_of_le zt0 hb11.size
  have Kt1 := Lib.hid ((hb11.block _ zt1).trans Kt1.out)
  have zt1 := Nat.lt_of_lt_of_le zt1 hb11.size
  obtain ⟨t2, ht⟩ : ∃ t, t = X10.heap.size := ⟨_, rfl⟩
  rw [← ht] at Kt2 zt2
  rw [← ht]
  clear ht hb11
  have d0 : X11.cell? ⟨t2, 0, none⟩ = some (.int .i64 th.k) := cell_of_block Kt2.out rfl
  have d1 : X11.cell? ⟨t2, 1, none⟩ = some (.string ⟨th.l.toArray⟩) := cell_of_block Kt2.out rfl
  have d2 : X11.cell? ⟨t2, 2, none⟩ = some (.slice aa2 th.ats.length ca2) := cell_of_block Kt2.out rfl
  have d3 : X11.cell? ⟨t2, 3, none⟩ = some (.int .i64 th.n) := cell_of_block Kt2.out rfl
  have d4 : X11.cell? ⟨t2, 4, none⟩ = some (.int .i64 th.d) := cell_of_block Kt2.out rfl
  have d5 : X11.cell? ⟨t2, 5, none⟩ = some (.string ⟨th.x.toArray⟩) := cell_of_block Kt2.out rfl
  have d6 : X11.cell? ⟨t2, 6, none⟩ = some (.slice ak2 tk.len ck2) := cell_of_block Kt2.out rfl
  have c0 : X11.cell? ⟨t0, 0, none⟩ = some (.int .i64 th.k) := cell_of_block Kt0.out rfl
  have c1 : X11.cell? ⟨t0, 1, none⟩ = some (.string ⟨th.l.toArray⟩) := cell_of_block Kt0.out rfl
  have c2 : X11.cell? ⟨t0, 2, none⟩ = some (.slice aa0 th.ats.length ca0) := cell_of_block Kt0.out rfl
  have c3 : X11.cell? ⟨t0, 3, none⟩ = some (.int .i64 th.n) := cell_of_block Kt0.out rfl
  have c4 : X11.cell? ⟨t0, 4, none⟩ = some (.int .i64 th.d) := cell_of_block Kt0.out rfl
  have c5 : X11.cell? ⟨t0, 5, none⟩ = some (.string ⟨th.x.toArray⟩) := cell_of_block Kt0.out rfl
  have c6 : X11.cell? ⟨t0, 6, none⟩ = some (.slice ak0 tk.len ck0) := cell_of_block Kt0.out rfl
  have k8 := World.alloc_heap_new X11 (.cells #[.int .i64 th.k, .string ⟨th.l.toArray⟩, .slice aa2 th.ats.length ca2, .int .i64 th.n, .int .i64 th.d, .string ⟨th.x.toArray⟩, .slice ak2 tk.len ck2] 43)
  have ba8 : Below X11.heap.size X11 (X11.alloc (.cells #[.int .i64 th.k, .string ⟨th.l.toArray⟩, .slice aa2 th.ats.length ca2, .int .i64 th.n, .int .i64 th.d, .string ⟨th.x.toArray⟩, .slice ak2 tk.len ck2] 43)) := (Below.refl _ _).alloc (Nat.le_refl _) _
  have e8 : (X11.alloc (.cells #[.int .i64 th.k, .string ⟨th.l.toArray⟩, .slice aa2 th.ats.length ca2, .int .i64 th.n, .int .i64 th.d, .string ⟨th.x.toArray⟩, .slice ak2 tk.len ck2] 43)).heap.size = X11.heap.size + 1 := by simp
  have ba9 : Below (X11.alloc (.cells #[.int .i64 th.k, .string ⟨th.l.toArray⟩, .slice aa2 th.ats.length ca2, .int .i64 th.n, .int .i64 th.d, .string ⟨th.x.toArray⟩, .slice ak2 tk.len ck2] 43)).heap.size (X11.alloc (.cells #[.int .i64 th.k, .string ⟨th.l.toArray⟩, .slice aa2 th.ats.length ca2, .int .i64 th.n, .int .i64 th.d, .string ⟨th.x.toArray⟩, .slice ak2 tk.len ck2] 43)) ((X11.alloc (.cells #[.int .i64 th.k, .string ⟨th.l.toArray⟩, .slice aa2 th.ats.length ca2, .int .i64 th.n, .int .i64 th.d, .string ⟨th.x.toArray⟩, .slice ak2 tk.len ck2] 43)).alloc (.cells #[.int .i64 th.k, .string ⟨th.l.toArray⟩, .slice aa0 th.ats.length ca0, .int .i64 th.n, .int .i64 th.d, .string ⟨th.x.toArray⟩, .slice ak0 tk.len ck0] 43)) := (Below.refl _ _).alloc (Nat.le_refl _) _
  have k9 := World.alloc_heap_new (X11.alloc (.cells #[.int .i64 th.k, .string ⟨th.l.toArray⟩, .slice aa2 th.ats.length ca2, .int .i64 th.n, .int .i64 th.d, .string ⟨th.x.toArray⟩, .slice ak2 tk.len ck2] 43)) (.cells #[.int .i64 th.k, .string ⟨th.l.toArray⟩, .slice aa0 th.ats.length ca0, .int .i64 th.n, .int .i64 th.d, .string ⟨th.x.toArray⟩, .slice ak0 tk.len ck0] 43)
  have L1 := Lib.hid (lies_below (lies_one k8 (attrs_below HA2.out ba8) (lies_below HK2.out ba8)) ba9)
  have hb13 := ba8.trans (ba9.mono (by omega))
  have BX13 : Below w.heap.size w ((X11.alloc (.cells #[.int .i64 th.k, .string ⟨th.l.toArray⟩, .slice aa2 th.ats.length ca2, .int .i64 th.n, .int .i64 th.d, .string ⟨th.x.toArray⟩, .slice ak2 tk.len ck2] 43)).alloc (.cells #[.int .i64 th.k, .string ⟨th.l.toArray⟩, .slice aa0 th.ats.length ca0, .int .i64 th.n, .int .i64 th.d, .string ⟨th.x.toArray⟩, .slice ak0 tk.len ck0] 43)) := BX11.trans (hb13.mono BX11.size)
  have L2 := Lib.hid (lies_one k9 (attrs_below HA.out hb13) (lies_below HK.out hb13))
  rw [e8] at L2
  have HA := Lib.hid (attrs_below HA.out hb13)
  have HK := Lib.hid (lies_below HK.out hb13)
  have HP := Lib.hid (ints_below HP.out hb13)
  have HQ := Lib.hid (ints_below HQ.out hb13)
  have HA1 := Lib.hid (attrs_below HA1.out hb13)
  have HK1 := Lib.hid (lies_below HK1.out hb13)
  have HG := Lib.hid (lies_below HG.out hb13)
  have HA2 := Lib.hid (attrs_below HA2.out hb13)
  have HK2 := Lib.hid (lies_below HK2.out hb13)
  have Kt0 := Lib.hid ((hb13.block _ zt0).trans Kt0.out)
  have zt0 := Nat.lt_of_lt_of_le zt0 hb13.size
  have Kt1 := Lib.hid ((hb13.block _ zt1).trans Kt1.out)
  have zt1 := Nat.lt_of_lt_of_le zt1 hb13.size
  have Kt2 := Lib.hid ((hb13.block _ zt2).trans Kt2.out)
  have zt2 := Nat.lt_of_lt_of_le zt2 hb13.size
  clear k8 k9 ba8 ba9 e8 hb13
  go_wp2_with fail
  generalize (X11.alloc (.cells #[.int .i64 th.k, .string ⟨th.l.toArray⟩, .slice aa2 th.ats.length ca2, .int .i64 th.n, .int .i64 th.d, .string ⟨th.x.toArray⟩, .slice ak2 tk.len ck2] 43)).alloc (.cells #[.int .i64 th.k, .string ⟨th.l.toArray⟩, .slice aa0 th.ats.length ca0, .int .i64 th.n, .int .i64 th.d, .string ⟨th.x.toArray⟩, .slice ak0 tk.len ck0] 43) = X13 at *
  clear d0 d1 d2 d3 d4 d5 d6
  clear c0 c1 c2 c3 c4 c5 c6

  refine (SR.out _ _ _ X13 L1.out L2.out).mono ?_
  rintro e X14 ⟨rfl, hb14⟩
  have BX14 : Below w.heap.size w X14 := BX13.trans (hb14.mono BX13.size)
  have HA := Lib.hid (attrs_below HA.out hb14)
  have HK := Lib.hid (lies_below HK.out hb14)
  have HP := Lib.hid (ints_below HP.out hb14)
  have HQ := Lib.hid (ints_below HQ.out hb14)
  have HA1 := Lib.hid (attrs_below HA1.out hb14)
  have HK1 := Lib.hid (lies_below HK1.out hb14)
  have HG := Lib.hid (lies_below HG.out hb14)
  have HA2 := Lib.hid (attrs_below HA2.out hb14)
  have HK2 := Lib.hid (lies_below HK2.out hb14)
  have Kt0 := Lib.hid ((hb14.block _ zt0).trans Kt0.out)
  have zt0 := Nat.lt_of_lt_of_le zt0 hb14.size
  have Kt1 := Lib.hid ((hb14.block _ zt1).trans Kt1.out)
  have zt1 := Nat.lt_of_lt_of_le zt1 hb14.size
  have Kt2 := Lib.hid ((hb14.block _ zt2).trans Kt2.out)
  have zt2 := Nat.lt_of_lt_of_le zt2 hb14.size
  clear L1 L2
  clear hb14
  clear Kt2 zt2 Kt0 zt0
  clear HA2 HK2 HA HK
  go_wp2_with fail
  refine (AR.out X14 _ _ HP.out HQ.out).mono ?_
  rintro e X15 ⟨rfl, hb15⟩
  have BX15 : Below w.heap.size w X15 := BX14.trans (hb15.mono BX14.size)
  have HP := Lib.hid (ints_below HP.out hb15)
  have HQ := Lib.hid (ints_below HQ.out hb15)
  have HA1 := Lib.hid (attrs_below HA1.out hb15)
  have HK1 := Lib.hid (lies_below HK1.out hb15)
  have HG := Lib.hid (lies_below HG.out hb15)
  have Kt1 := Lib.hid ((hb15.block _ zt1).trans Kt1.out)
  have zt1 := Nat.lt_of_lt_of_le zt1 hb15.size
  clear hb15
  go_wp2_with fail
  refine (AY.out X15 BX15 _ HQ.out).mono ?_
  rintro e X16 ⟨aa3, ca3, ak3, ck3, rfl, hA, hK, hb16⟩
  have BX16 : Below w.heap.size w X16 := BX15.trans (hb16.mono BX15.size)
  have HP := Lib.hid (ints_below HP.out hb16)
  have HQ := Lib.hid (ints_below HQ.out hb16)
  have HA1 := Lib.hid (attrs_below HA1.out hb16)
  have HK1 := Lib.hid (lies_below HK1.out hb16)
  have HG := Lib.hid (lies_below HG.out hb16)
  have Kt1 := Lib.hid ((hb16.block _ zt1).trans Kt1.out)
  have zt1 := Nat.lt_of_lt_of_le zt1 hb16.size
  unfold aggOf
  have HA3 := Lib.hid hA
  have HK3 := Lib.hid hK
  clear hA hK AY
  clear hb16
  go_upto_region 13 with fail
  have kk := World.alloc_heap_new X16 (.cells #[.int .i64 yh.k, .string ⟨yh.l.toArray⟩, .slice aa3 yh.ats.length ca3, .int .i64 yh.n, .int .i64 yh.d, .string ⟨yh.x.toArray⟩, .slice ak3 yk.len ck3] 43)
  have hb17 : Below X16.heap.size X16 (X16.alloc (.cells #[.int .i64 yh.k, .string ⟨yh.l.toArray⟩, .slice aa3 yh.ats.length ca3, .int .i64 yh.n, .int .i64 yh.d, .string ⟨yh.x.toArray⟩, .slice ak3 yk.len ck3] 43)) := (Below.refl _ _).alloc (Nat.le_refl _) _
  have zt3 : X16.heap.size < (X16.alloc (.cells #[.int .i64 yh.k, .string ⟨yh.l.toArray⟩, .slice aa3 yh.ats.length ca3, .int .i64 yh.n, .int .i64 yh.d, .string ⟨yh.x.toArray⟩, .slice ak3 yk.len ck3] 43)).heap.size := by simp
  generalize X16.alloc (.cells #[.int .i64 yh.k, .string ⟨yh.l.toArray⟩, .slice aa3 yh.ats.length ca3, .int .i64 yh.n, .int .i64 yh.d, .string ⟨yh.x.toArray⟩, .slice ak3 yk.len ck3] 43) = X17 at *
  have BX17 : Below w.heap.size w X17 := BX16.trans (hb17.mono BX16.size)
  have Kt3 := Lib.hid kk
  clear kk
  have HP := Lib.hid (ints_below HP.out hb17)
  have HQ := Lib.hid (ints_below HQ.out hb17)
  have HA1 := Lib.hid (attrs_below HA1.out hb17)
  have HK1 := Lib.hid (lies_below HK1.out hb17)
  have HG := Lib.hid (lies_below HG.out hb17)
  have HA3 := Lib.hid (attrs_below HA3.out hb17)
  have HK3 := Lib.hid (lies_below HK3.out hb17)
  have Kt1 := Lib.hid ((hb17.block _ zt1).trans Kt1.out)
  have zt1 := Nat.lt_of_lt_of_le zt1 hb17.size
  obtain ⟨t3, ht⟩ : ∃ t, t = X16.heap.size := ⟨_, rfl⟩
  rw [← ht] at Kt3 zt3
  rw [← ht]
  clear ht hb17
  go_wp2_with fail
  refine (AGY.out X17 _ _ HG.out HQ.out).mono ?_
  rintro e X18 ⟨aa4, ca4, ak4, ck4, rfl, hA, hK, hb18⟩
  have BX18 : Below w.heap.size w X18 := BX17.trans (hb18.mono BX17.size)
  have HP := Lib.hid (ints_below HP.out hb18)
  have HQ := Lib.hid (ints_below HQ.out hb18)
  have HA1 := Lib.hid (attrs_below HA1.out hb18)
  have HK1 := Lib.hid (lies_below HK1.out hb18)
  have HG := Lib.hid (lies_below HG.out hb18)
  have HA3 := Lib.hid (attrs_below HA3.out hb18)
  have HK3 := Lib.hid (lies_below HK3.out hb18)
  have Kt1 := Lib.hid ((hb18.block _ zt1).trans Kt1.out)
  have zt1 := Nat.lt_of_lt_of_le zt1 hb18.size
  have Kt3 := Lib.hid ((hb18.block _ zt3).trans Kt3.out)
  have zt3 := Nat.lt_of_lt_of_le zt3 hb18.size
  unfold aggOf
  have HA4 := Lib.hid hA
  have HK4 := Lib.hid hK
  clear hA hK AGY
  clear hb18
  go_upto_region 14 with fail
  have kk := World.alloc_heap_new X18 (.cells #[.int .i64 yh.k, .string ⟨yh.l.toArray⟩, .slice aa4 yh.ats.length ca4, .int .i64 yh.n, .int .i64 yh.d, .string ⟨yh.x.toArray⟩, .slice ak4 yk.len ck4] 43)
  have hb19 : Below X18.heap.size X18 (X18.alloc (.cells #[.int .i64 yh.k, .string ⟨yh.l.toArray⟩, .slice aa4 yh.ats.length ca4, .int .i64 yh.n, .int .i64 yh.d, .string ⟨yh.x.toArray⟩, .slice ak4 yk.len ck4] 43)) := (Below.refl _ _).alloc (Nat.le_refl _) _
  have zt4 : X18.heap.size < (X18.alloc (.cells #[.int .i64 yh.k, .string ⟨yh.l.toArray⟩, .slice aa4 yh.ats.length ca4, .int .i64 yh.n, .int .i64 yh.d, .string ⟨yh.x.toArray⟩, .slice ak4 yk.len ck4] 43)).heap.size := by simp
  generalize X18.alloc (.cells #[.int .i64 yh.k, .string ⟨yh.l.toArray⟩, .slice aa4 yh.ats.length ca4, .int .i64 yh.n, .int .i64 yh.d, .string ⟨yh.x.toArray⟩, .slice ak4 yk.len ck4] 43) = X19 at *
  have BX19 : Below w.heap.size w X19 := BX18.trans (hb19.mono BX18.size)
  have Kt4 := Lib.hid kk
  clear kk
  have HP := Lib.hid (ints_below HP.out hb19)
  have HQ := Lib.hid (ints_below HQ.out hb19)
  have HA1 := Lib.hid (attrs_below HA1.out hb19)
  have HK1 := Lib.hid (lies_below HK1.out hb19)
  have HG := Lib.hid (lies_below HG.out hb19)
  have HA3 := Lib.hid (attrs_below HA3.out hb19)
  have HK3 := Lib.hid (lies_below HK3.out hb19)
  have HA4 := Lib.hid (attrs_below HA4.out hb19)
  have HK4 := Lib.hid (lies_below HK4.out hb19)
  have Kt1 := Lib.hid ((hb19.block _ zt1).trans Kt1.out)
  have zt1 := Nat.lt_of_lt_of_le zt1 hb19.size
  have Kt3 := Lib.hid ((hb19.block _ zt3).trans Kt3.out)
  have zt3 := Nat.lt_of_lt_of_le zt3 hb19.size
  obtain ⟨t4, ht⟩ : ∃ t, t = X18.heap.size := ⟨_, rfl⟩
  rw [← ht] at Kt4 zt4
  rw [← ht]
  clear ht hb19
  have d0 : X19.cell? ⟨t3, 0, none⟩ = some (.int .i64 yh.k) := cell_of_block Kt3.out rfl
  have d1 : X19.cell? ⟨t3, 1, none⟩ = some (.string ⟨yh.l.toArray⟩) := cell_of_block Kt3.out rfl
  have d2 : X19.cell? ⟨t3, 2, none⟩ = some (.slice aa3 yh.ats.length ca3) := cell_of_block Kt3.out rfl
  have d3 : X19.cell? ⟨t3, 3, none⟩ = some (.int .i64 yh.n) := cell_of_block Kt3.out rfl
  have d4 : X19.cell? ⟨t3, 4, none⟩ = some (.int .i64 yh.d) := cell_of_block Kt3.out rfl
  have d5 : X19.cell? ⟨t3, 5, none⟩ = some (.string ⟨yh.x.toArray⟩) := cell_of_block Kt3.out rfl
  have d6 : X19.cell? ⟨t3, 6, none⟩ = some (.slice ak3 yk.len ck3) := cell_of_block Kt3.out rfl
  have c0 : X19.cell? ⟨t4, 0, none⟩ = some (.int .i64 yh.k) := cell_of_block Kt4.out rfl
  have c1 : X19.cell? ⟨t4, 1, none⟩ = some (.string ⟨yh.l.toArray⟩) := cell_of_block Kt4.out rfl
  have c2 : X19.cell? ⟨t4, 2, none⟩ = some (.slice aa4 yh.ats.length ca4) := cell_of_block Kt4.out rfl
  have c3 : X19.cell? ⟨t4, 3, none⟩ = some (.int .i64 yh.n) := cell_of_block Kt4.out rfl
  have c4 : X19.cell? ⟨t4, 4, none⟩ = some (.int .i64 yh.d) := cell_of_block Kt4.out rfl
  have c5 : X19.cell? ⟨t4, 5, none⟩ = some (.string ⟨yh.x.toArray⟩) := cell_of_block Kt4.out rfl
  have c6 : X19.cell? ⟨t4, 6, none⟩ = some (.slice ak4 yk.len ck4) := cell_of_block Kt4.out rfl
  go_wp2_with fail
  refine (SH.out yh _ _ _ _ X19 HA3.out HA4.out).mono ?_
  rintro e X20 ⟨rfl, hb20⟩
  have BX20 : Below w.heap.size w X20 := BX19.trans (hb20.mono BX19.size)
  have HP := Lib.hid (ints_below HP.out hb20)
  have HQ := Lib.hid (ints_below HQ.out hb20)
  have HA1 := Lib.hid (attrs_below HA1.out hb20)
  have HK1 := Lib.hid (lies_below HK1.out hb20)
  have HG := Lib.hid (lies_below HG.out hb20)
  have HA3 := Lib.hid (attrs_below HA3.out hb20)
  have HK3 := Lib.hid (lies_below HK3.out hb20)
  have HA4 := Lib.hid (attrs_below HA4.out hb20)
  have HK4 := Lib.hid (lies_below HK4.out hb20)
  have Kt1 := Lib.hid ((hb20.block _ zt1).trans Kt1.out)
  have zt1 := Nat.lt_of_lt_of_le zt1 hb20.size
  have Kt3 := Lib.hid ((hb20.block _ zt3).trans Kt3.out)
  have zt3 := Nat.lt_of_lt_of_le zt3 hb20.size
  have Kt4 := Lib.hid ((hb20.block _ zt4).trans Kt4.out)
  have zt4 := Nat.lt_of_lt_of_le zt4 hb20.size
  clear hb20
  clear d0 d1 d2 d3 d4 d5 d6
  clear c0 c1 c2 c3 c4 c5 c6
  go_wp2_with fail
  refine (AR2.out X20 _ _ HQ.out HP.out).mono ?_
  rintro e X21 ⟨rfl, hb21⟩
  have BX21 : Below w.heap.size w X21 := BX20.trans (hb21.mono BX20.size)
  have HP := Lib.hid (ints_below HP.out hb21)
  have HQ := Lib.hid (ints_below HQ.out hb21)
  have HA1 := Lib.hid (attrs_below HA1.out hb21)
  have HK1 := Lib.hid (lies_below HK1.out hb21)
  have HG := Lib.hid (lies_below HG.out hb21)
  have HA3 := Lib.hid (attrs_below HA3.out hb21)
  have HK3 := Lib.hid (lies_below HK3.out hb21)
  have HA4 := Lib.hid (attrs_below HA4.out hb21)
  have HK4 := Lib.hid (lies_below HK4.out hb21)
  have Kt1 := Lib.hid ((hb21.block _ zt1).trans Kt1.out)
  have zt1 := Nat.lt_of_lt_of_le zt1 hb21.size
  have Kt3 := Lib.hid ((hb21.block _ zt3).trans Kt3.out)
  have zt3 := Nat.lt_of_lt_of_le zt3 hb21.size
  have Kt4 := Lib.hid ((hb21.block _ zt4).trans Kt4.out)
  have zt4 := Nat.lt_of_lt_of_le zt4 hb21.size
  clear hb21
  have d0 : X21.cell? ⟨t3, 0, none⟩ = some (.int .i64 yh.k) := cell_of_block Kt3.out rfl
  have d1 : X21.cell? ⟨t3, 1, none⟩ = some (.string ⟨yh.l.toArray⟩) := cell_of_block Kt3.out rfl
  have d2 : X21.cell? ⟨t3, 2, none⟩ = some (.slice aa3 yh.ats.length ca3) := cell_of_block Kt3.out rfl
  have d3 : X21.cell? ⟨t3, 3, none⟩ = some (.int .i64 yh.n) := cell_of_block Kt3.out rfl
  have d4 : X21.cell? ⟨t3, 4, none⟩ = some (.int .i64 yh.d) := cell_of_block Kt3.out rfl
  have d5 : X21.cell? ⟨t3, 5, none⟩ = some (.string ⟨yh.x.toArray⟩) := cell_of_block Kt3.out rfl
  have d6 : X21.cell? ⟨t3, 6, none⟩ = some (.slice ak3 yk.len ck3) := cell_of_block Kt3.out rfl
  have c0 : X21.cell? ⟨t4, 0, none⟩ = some (.int .i64 yh.k) := cell_of_block Kt4.out rfl
  have c1 : X21.cell? ⟨t4, 1, none⟩ = some (.string ⟨yh.l.toArray⟩) := cell_of_block Kt4.out rfl
  have c2 : X21.cell? ⟨t4, 2, none⟩ = some (.slice aa4 yh.ats.length ca4) := cell_of_block Kt4.out rfl
  have c3 : X21.cell? ⟨t4, 3, none⟩ = some (.int .i64 yh.n) := cell_of_block Kt4.out rfl
  have c4 : X21.cell? ⟨t4, 4, none⟩ = some (.int .i64 yh.d) := cell_of_block Kt4.out rfl
  have c5 : X21.cell? ⟨t4, 5, none⟩ = some (.string ⟨yh.x.toArray⟩) := cell_of_block Kt4.out rfl
  have c6 : X21.cell? ⟨t4, 6, none⟩ = some (.slice ak4 yk.len ck4) := cell_of_block Kt4.out rfl
  have k8 := World.alloc_heap_new X21 (.cells #[.int .i64 yh.k, .string ⟨yh.l.toArray⟩, .slice aa3 yh.ats.length ca3, .int .i64 yh.n, .int .i64 yh.d, .string ⟨yh.x.toArray⟩, .slice ak3 yk.len ck3] 43)
  have ba8 : Below X21.heap.size X21 (X21.alloc (.cells #[.int .i64 yh.k, .string ⟨yh.l.toArray⟩, .slice aa3 yh.ats.length ca3, .int .i64 yh.n, .int .i64 yh.d, .string ⟨yh.x.toArray⟩, .slice ak3 yk.len ck3] 43)) := (Below.refl _ _).alloc (Nat.le_refl _) _
  have e8 : (X21.alloc (.cells #[.int .i64 yh.k, .string ⟨yh.l.toArray⟩, .slice aa3 yh.ats.length ca3, .int .i64 yh.n, .int .i64 yh.d, .string ⟨yh.x.toArray⟩, .slice ak3 yk.len ck3] 43)).heap.size = X21.heap.size + 1 := by simp
  have ba9 : Below (X21.alloc (.cells #[.int .i64 yh.k, .string ⟨yh.l.toArray⟩, .slice aa3 yh.ats.length ca3, .int .i64 yh.n, .int .i64 yh.d, .string ⟨yh.x.toArray⟩, .slice ak3 yk.len ck3] 43)).heap.size (X21.alloc (.cells #[.int .i64 yh.k, .string ⟨yh.l.toArray⟩, .slice aa3 yh.ats.length ca3, .int .i64 yh.n, .int .i64 yh.d, .string ⟨yh.x.toArray⟩, .slice ak3 yk.len ck3] 43)) ((X21.alloc (.cells #[.int .i64 yh.k, .string ⟨yh.l.toArray⟩, .slice aa3 yh.ats.length ca3, .int .i64 yh.n, .int .i64 yh.d, .string ⟨yh.x.toArray⟩, .slice ak3 yk.len ck3] 43)).alloc (.cells #[.int .i64 yh.k, .string ⟨yh.l.toArray⟩, .slice aa4 yh.ats.length ca4, .int .i64 yh.n, .int .i64 yh.d, .string ⟨yh.x.toArray⟩, .slice ak4 yk.len ck4] 43)) := (Below.refl _ _).alloc (Nat.le_refl _) _
  have k9 := World.alloc_heap_new (X21.alloc (.cells #[.int .i64 yh.k, .string ⟨yh.l.toArray⟩, .slice aa3 yh.ats.length ca3, .int .i64 yh.n, .int .i64 yh.d, .string ⟨yh.x.toArray⟩, .slice ak3 yk.len ck3] 43)) (.cells #[.int .i64 yh.k, .string ⟨yh.l.toArray⟩, .slice aa4 yh.ats.length ca4, .int .i64 yh.n, .int .i64 yh.d, .string ⟨yh.x.toArray⟩, .slice ak4 yk.len ck4] 43)
  have L1 := Lib.hid (lies_below (lies_one k8 (attrs_below HA3.out ba8) (lies_below HK3.out ba8)) ba9)
  have hb23 := ba8.trans (ba9.mono (by omega))
  have BX23 : Below w.heap.size w ((X21.alloc (.cells #[.int .i64 yh.k, .string ⟨yh.l.toArray⟩, .slice aa3 yh.ats.length ca3, .int .i64 yh.n, .int .i64 yh.d, .string ⟨yh.x.toArray⟩, .slice ak3 yk.len ck3] 43)).alloc (.cells #[.int .i64 yh.k, .string ⟨yh.l.toArray⟩, .slice aa4 yh.ats.length ca4, .int .i64 yh.n, .int .i64 yh.d, .string ⟨yh.x.toArray⟩, .slice ak4 yk.len ck4] 43)) := BX21.trans (hb23.mono BX21.size)
  have L2 := Lib.hid (lies_one k9 (attrs_below HA4.out hb23) (lies_below HK4.out hb23))
  rw [e8] at L2
  have HP := Lib.hid (ints_below HP.out hb23)
  have HQ := Lib.hid (ints_below HQ.out hb23)
  have HA1 := Lib.hid (attrs_below HA1.out hb23)
  have HK1 := Lib.hid (lies_below HK1.out hb23)
  have HG := Lib.hid (lies_below HG.out hb23)
  have HA3 := Lib.hid (attrs_below HA3.out hb23)
  have HK3 := Lib.hid (lies_below HK3.out hb23)
  have HA4 := Lib.hid (attrs_below HA4.out hb23)
  have HK4 := Lib.hid (lies_below HK4.out hb23)
  have Kt1 := Lib.hid ((hb23.block _ zt1).trans Kt1.out)
  have zt1 := Nat.lt_of_lt_of_le zt1 hb23.size
  have Kt3 := Lib.hid ((hb23.block _ zt3).trans Kt3.out)
  have zt3 := Nat.lt_of_lt_of_le zt3 hb23.size
  have Kt4 := Lib.hid ((hb23.block _ zt4).trans Kt4.out)
  have zt4 := Nat.lt_of_lt_of_le zt4 hb23.size
  clear k8 k9 ba8 ba9 e8 hb23
  go_wp2_with fail
  generalize (X21.alloc (.cells #[.int .i64 yh.k, .string ⟨yh.l.toArray⟩, .slice aa3 yh.ats.length ca3, .int .i64 yh.n, .int .i64 yh.d, .string ⟨yh.x.toArray⟩, .slice ak3 yk.len ck3] 43)).alloc (.cells #[.int .i64 yh.k, .string ⟨yh.l.toArray⟩, .slice aa4 yh.ats.length ca4, .int .i64 yh.n, .int .i64 yh.d, .string ⟨yh.x.toArray⟩, .slice ak4 yk.len ck4] 43) = X23 at *
  clear d0 d1 d2 d3 d4 d5 d6
  clear c0 c1 c2 c3 c4 c5 c6

  refine (SR.out _ _ _ X23 L1.out L2.out).mono ?_
  rintro e X24 ⟨rfl, hb24⟩
  have BX24 : Below w.heap.size w X24 := BX23.trans (hb24.mono BX23.size)
  have HP := Lib.hid (ints_below HP.out hb24)
  have HQ := Lib.hid (ints_below HQ.out hb24)
  have HA1 := Lib.hid (attrs_below HA1.out hb24)
  have HK1 := Lib.hid (lies_below HK1.out hb24)
  have HG := Lib.hid (lies_below HG.out hb24)
  have HA3 := Lib.hid (attrs_below HA3.out hb24)
  have HK3 := Lib.hid (lies_below HK3.out hb24)
  have HA4 := Lib.hid (attrs_below HA4.out hb24)
  have HK4 := Lib.hid (lies_below HK4.out hb24)
  have Kt1 := Lib.hid ((hb24.block _ zt1).trans Kt1.out)
  have zt1 := Nat.lt_of_lt_of_le zt1 hb24.size
  have Kt3 := Lib.hid ((hb24.block _ zt3).trans Kt3.out)
  have zt3 := Nat.lt_of_lt_of_le zt3 hb24.size
  have Kt4 := Lib.hid ((hb24.block _ zt4).trans Kt4.out)
  have zt4 := Nat.lt_of_lt_of_le zt4 hb24.size
  clear L1 L2
  clear hb24
  clear Kt3 zt3 Kt4 zt4
  clear HA3 HK3 HA4 HK4
  have d0 : X24.cell? ⟨t1, 0, none⟩ = some (.int .i64 xh.k) := cell_of_block Kt1.out rfl
  have d1 : X24.cell? ⟨t1, 1, none⟩ = some (.string ⟨xh.l.toArray⟩) := cell_of_block Kt1.out rfl
  have d2 : X24.cell? ⟨t1, 2, none⟩ = some (.slice aa1 xh.ats.length ca1) := cell_of_block Kt1.out rfl
  have d3 : X24.cell? ⟨t1, 3, none⟩ = some (.int .i64 xh.n) := cell_of_block Kt1.out rfl
  have d4 : X24.cell? ⟨t1, 4, none⟩ = some (.int .i64 xh.d) := cell_of_block Kt1.out rfl
  have d5 : X24.cell? ⟨t1, 5, none⟩ = some (.string ⟨xh.x.toArray⟩) := cell_of_block Kt1.out rfl
  have d6 : X24.cell? ⟨t1, 6, none⟩ = some (.slice ak1 xk.len ck1) := cell_of_block Kt1.out rfl
  go_wp2_with fail
  refine (PB.out X24 _ _ _ _ _ _ HG.out HP.out HA1.out HK1.out).mono ?_
  rintro e X25 ⟨v5, rfl, hH, hb25⟩
  have BX25 : Below w.heap.size w X25 := BX24.trans (hb25.mono BX24.size)
  have HP := Lib.hid (ints_below HP.out hb25)
  have HQ := Lib.hid (ints_below HQ.out hb25)
  have HA1 := Lib.hid (attrs_below HA1.out hb25)
  have HK1 := Lib.hid (lies_below HK1.out hb25)
  have HG := Lib.hid (lies_below HG.out hb25)
  have Kt1 := Lib.hid ((hb25.block _ zt1).trans Kt1.out)
  have zt1 := Nat.lt_of_lt_of_le zt1 hb25.size
  have HH := Lib.hid (liesF_lies hH)
  obtain ⟨a5, c5, rfl⟩ := liesF_form hH
  clear hH PB
  clear hb25
  clear d0 d1 d2 d3 d4 d5 d6
  go_wp2_with fail
  refine (SR.out _ _ _ X25 HH.out (FL.out X25 BX25)).mono ?_
  rintro e X26 ⟨rfl, hb26⟩
  have BX26 : Below w.heap.size w X26 := BX25.trans (hb26.mono BX25.size)
  have HP := Lib.hid (ints_below HP.out hb26)
  have HQ := Lib.hid (ints_below HQ.out hb26)
  have HA1 := Lib.hid (attrs_below HA1.out hb26)
  have HK1 := Lib.hid (lies_below HK1.out hb26)
  have HG := Lib.hid (lies_below HG.out hb26)
  have Kt1 := Lib.hid ((hb26.block _ zt1).trans Kt1.out)
  have zt1 := Nat.lt_of_lt_of_le zt1 hb26.size
  clear hb26
  go_wp2_with fail
  refine (GR.out _).mono ?_
  rintro e X27 ⟨rfl, hb27⟩
  have BX27 : Below w.heap.size w X27 := BX26.trans (hb27.mono BX26.size)
  have HP := Lib.hid (ints_below HP.out hb27)
  have HQ := Lib.hid (ints_below HQ.out hb27)
  have HA1 := Lib.hid (attrs_below HA1.out hb27)
  have HK1 := Lib.hid (lies_below HK1.out hb27)
  have HG := Lib.hid (lies_below HG.out hb27)
  have Kt1 := Lib.hid ((hb27.block _ zt1).trans Kt1.out)
  have zt1 := Nat.lt_of_lt_of_le zt1 hb27.size
  clear hb27
  go_wp2_with fail
  go_ret
  exact ⟨rfl, BX27⟩


theorem tput_law (f : Fo) (v : Value) (th : Hd) (tk : Fo) (va vk : Value) (a b : Int) (w : World) (hl : Lies w v f) (ha : AttrsLie w va th.ats) (hk : Lies w vk tk) (h1 : 0 ≤ a ∧ a ≤ 65535) (h2 : 0 ≤ b ∧ b ≤ 65535) :
    Calls Tryz.prog 8 #[v, treeA th va vk, .int .u16 a, .int .u16 b] w fun e w' => e = .returned (.bool true) ∧ Below w.heap.size w w' := by
  cases hf : fitB f with
  | false => exact tput_unfit1 f v th tk va vk a b w hl ha hk hf
  | true =>
    cases hf2 : fitB (.cons th tk .nil) with
    | false => exact tput_unfit2 f v th tk va vk a b w hl ha hk hf hf2
    | true =>
      by_cases hlen : f.len = 0
      · exact tput_none f v th tk va vk a b w hl ha hk hf hf2 hlen
      · obtain ⟨m, rfl⟩ : ∃ m : Nat, a = (m : Int) := ⟨a.toNat, by omega⟩
        obtain ⟨n, rfl⟩ : ∃ n : Nat, b = (n : Int) := ⟨b.toNat, by omega⟩
        have hn := len_size f
        have hka : Int.tmod (m : Int) (f.size : Int) = ((m % f.size : Nat) : Int) := rfl
        have hkb : Int.tmod (n : Int) (f.size : Int) = ((n % f.size : Nat) : Int) := rfl
        have hlt := Nat.mod_lt m (show 0 < f.size by omega)
        have hlt2 := Nat.mod_lt n (show 0 < f.size by omega)
        have len := seqAt_len f [] 0
        have hx := List.getElem?_eq_getElem (l := seqAt [] 0 f) (i := m % f.size) (by omega)
        have hy := List.getElem?_eq_getElem (l := seqAt [] 0 f) (i := n % f.size) (by omega)
        generalize (seqAt [] 0 f)[m % f.size] = x at *
        generalize (seqAt [] 0 f)[n % f.size] = y at *
        have hput : (putV f (pathInts x.p) (.cons th tk .nil)).2 = 0 ∨ putV f (pathInts x.p) (.cons th tk .nil) = (.nil, 4) ∨ putV f (pathInts x.p) (.cons th tk .nil) = (.nil, 8) := by
          obtain ⟨q, i, g, ep, hg, hn⟩ := vis_split (List.mem_of_getElem? hx)
          rw [ep, (put_vals (fit_parts hf).2 (fit_parts hf2).2 hg hn).1]
          rcases in_bnd (changeAt f q (setK g i th tk)) with ⟨-, h⟩ | h | h
          · exact .inl (by rw [h])
          · exact .inr (.inl h)
          · exact .inr (.inr h)
        rcases hput with hbo | hbe | hbe
        · cases har : aroundB (pathInts x.p) (pathInts y.p) with
          | true => exact tput_in f v th tk va vk m n w hl ha hk _ _ x y hf hf2 hlen (by omega) (by omega) hx hy hka hkb hbo har
          | false =>
            cases har2 : aroundB (pathInts y.p) (pathInts x.p) with
            | true => exact tput_near f v th tk va vk m n w hl ha hk _ _ x y hf hf2 hlen (by omega) (by omega) hx hy hka hkb hbo har har2
            | false => exact tput_far f v th tk va vk m n w hl ha hk _ _ x y hf hf2 hlen (by omega) (by omega) hx hy hka hkb hbo har har2
        · exact tput_err4 f v th tk va vk m n w hl ha hk _ _ x y hf hf2 hlen (by omega) (by omega) hx hy hka hkb hbe
        · exact tput_err8 f v th tk va vk m n w hl ha hk _ _ x y hf hf2 hlen (by omega) (by omega) hx hy hka hkb hbe
end Go.Proofs.YtcgedpfolloinaaGreat
