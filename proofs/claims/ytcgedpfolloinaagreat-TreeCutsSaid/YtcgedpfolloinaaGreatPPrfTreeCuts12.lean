/- What the proof of PrfTreeCuts rests on, part 12 of 12. -/
import Derived.Test.YtcgedpfolloinaaGreatPPrfTreeCuts11
namespace Go.Proofs.YtcgedpfolloinaaGreat
open Go.RowKit

set_option maxRecDepth 100000 in
set_option maxHeartbeats 8000000 in
theorem tcuts_unfit1 (f : Fo) (v : Value) (th : Hd) (tk : Fo) (va vk : Value) (a : Int) (w : World) (hl : Lies w v f) (ha : AttrsLie w va th.ats) (hk : Lies w vk tk)
    (hf : fitB f = false) : Calls Tryz.prog 9 #[v, treeA th va vk, .int .u16 a] w fun e w' => e = .returned (.bool true) ∧ Below w.heap.size w w' := by
  have GR := Lib.hid (fun w => grown_any w)
  have FF := Lib.hid (fun W (hW : Below w.heap.size w W) => fit_any f v W (lies_below hl hW))
  have FT := Lib.hid (fun W y (h : Lies W y (.cons th tk .nil)) => fit_any (.cons th tk .nil) y W h)
  have HA := Lib.hid ha
  have HK := Lib.hid hk
  have BX0 := Below.refl w.heap.size w
  obtain ⟨av, cv, rfl⟩ := lies_form hl
  obtain ⟨aa0, ca0, rfl⟩ := attrs_form ha
  obtain ⟨ak0, ck0, rfl⟩ := lies_form hk
  unfold treeA
  rw [hf] at FF
  clear hl ha hk hf
  go_enter Tryz.func9, Tryz.ntmps9
  go_upto_region 1 with fail
  have kk := World.alloc_heap_new w (.cells #[.int .i64 th.k, .string ⟨th.l.toArray⟩, .slice aa0 th.ats.length ca0, .int .i64 th.n, .int .i64 th.d, .string ⟨th.x.toArray⟩, .slice ak0 tk.len ck0] 43)
  have hb1 : Below w.heap.size w (w.alloc (.cells #[.int .i64 th.k, .string ⟨th.l.toArray⟩, .slice aa0 th.ats.length ca0, .int .i64 th.n, .int .i64 th.d, .string ⟨th.x.toArray⟩, .slice ak0 tk.len ck0] 43)) := (Below.refl _ _).alloc (Nat.le_refl _) _
  have zt0 : w.heap.size < (w.alloc (.cells #[.int .i64 th.k, .string ⟨th.l.toArray⟩, .slice aa0 th.ats.length ca0, .int .i64 th.n, .int .i64 th.d, .string ⟨th.x.toArray⟩, .slice ak0 tk.len ck0] 43)).heap.size := by simp
  generalize w.alloc (.cells #[.int .i64 th.k, .string ⟨th.l.toArray⟩, .slice aa0 th.ats.length ca0, .int .i64 th.n, .int .i64 th.d, .string ⟨th.x.toArray⟩, .slice ak0 tk.len ck0] 43) = X1 at *
  have BX1 : Below w.heap.size w X1 := hb1
  have Kt0 := Lib.hid kk
  clear kk
  have HA := Lib.hid (attrs_below HA.out hb1)
  have HK := Lib.hid (lies_below HK.out hb1)
  obtain ⟨t0, ht⟩ : ∃ t, t = w.heap.size := ⟨_, rfl⟩
  rw [← ht] at Kt0 zt0
  have hpp : (Value.pointer (some ⟨w.heap.size, 0, none⟩)) = .pointer (some ⟨t0, 0, none⟩) := by rw [ht]
  rw [hpp]
  clear hpp ht hb1
  go_wp2_with fail
  refine (FF.out X1 BX1).mono ?_
  rintro e X2 ⟨rfl, hb2⟩
  have BX2 : Below w.heap.size w X2 := BX1.trans (hb2.mono BX1.size)
  have HA := Lib.hid (attrs_below HA.out hb2)
  have HK := Lib.hid (lies_below HK.out hb2)
  have Kt0 := Lib.hid ((hb2.block _ zt0).trans Kt0.out)
  have zt0 := Nat.lt_of_lt_of_le zt0 hb2.size
  clear hb2
  go_wp2_with fail
  refine (GR.out _).mono ?_
  rintro e X3 ⟨rfl, hb3⟩
  have BX3 : Below w.heap.size w X3 := BX2.trans (hb3.mono BX2.size)
  have HA := Lib.hid (attrs_below HA.out hb3)
  have HK := Lib.hid (lies_below HK.out hb3)
  have Kt0 := Lib.hid ((hb3.block _ zt0).trans Kt0.out)
  have zt0 := Nat.lt_of_lt_of_le zt0 hb3.size
  clear hb3
  go_wp2_with fail
  go_ret
  exact ⟨rfl, BX3⟩

set_option maxRecDepth 100000 in
set_option maxHeartbeats 8000000 in
theorem tcuts_unfit2 (f : Fo) (v : Value) (th : Hd) (tk : Fo) (va vk : Value) (a : Int) (w : World) (hl : Lies w v f) (ha : AttrsLie w va th.ats) (hk : Lies w vk tk)
    (hf : fitB f = true) (hf2 : fitB (.cons th tk .nil) = false) : Calls Tryz.prog 9 #[v, treeA th va vk, .int .u16 a] w fun e w' => e = .returned (.bool true) ∧ Below w.heap.size w w' := by
  have GR := Lib.hid (fun w => grown_any w)
  have FF := Lib.hid (fun W (hW : Below w.heap.size w W) => fit_any f v W (lies_below hl hW))
  have FT := Lib.hid (fun W y (h : Lies W y (.cons th tk .nil)) => fit_any (.cons th tk .nil) y W h)
  have HA := Lib.hid ha
  have HK := Lib.hid hk
  have BX0 := Below.refl w.heap.size w
  obtain ⟨av, cv, rfl⟩ := lies_form hl
  obtain ⟨aa0, ca0, rfl⟩ := attrs_form ha
  obtain ⟨ak0, ck0, rfl⟩ := lies_form hk
  unfold treeA
  rw [hf] at FF
  rw [hf2] at FT
  clear hl ha hk hf hf2
  go_enter Tryz.func9, Tryz.ntmps9
  go_upto_region 1 with fail
  have kk := World.alloc_heap_new w (.cells #[.int .i64 th.k, .string ⟨th.l.toArray⟩, .slice aa0 th.ats.length ca0, .int .i64 th.n, .int .i64 th.d, .string ⟨th.x.toArray⟩, .slice ak0 tk.len ck0] 43)
  have hb1 : Below w.heap.size w (w.alloc (.cells #[.int .i64 th.k, .string ⟨th.l.toArray⟩, .slice aa0 th.ats.length ca0, .int .i64 th.n, .int .i64 th.d, .string ⟨th.x.toArray⟩, .slice ak0 tk.len ck0] 43)) := (Below.refl _ _).alloc (Nat.le_refl _) _
  have zt0 : w.heap.size < (w.alloc (.cells #[.int .i64 th.k, .string ⟨th.l.toArray⟩, .slice aa0 th.ats.length ca0, .int .i64 th.n, .int .i64 th.d, .string ⟨th.x.toArray⟩, .slice ak0 tk.len ck0] 43)).heap.size := by simp
  generalize w.alloc (.cells #[.int .i64 th.k, .string ⟨th.l.toArray⟩, .slice aa0 th.ats.length ca0, .int .i64 th.n, .int .i64 th.d, .string ⟨th.x.toArray⟩, .slice ak0 tk.len ck0] 43) = X1 at *
  have BX1 : Below w.heap.size w X1 := hb1
  have Kt0 := Lib.hid kk
  clear kk
  have HA := Lib.hid (attrs_below HA.out hb1)
  have HK := Lib.hid (lies_below HK.out hb1)
  obtain ⟨t0, ht⟩ : ∃ t, t = w.heap.size := ⟨_, rfl⟩
  rw [← ht] at Kt0 zt0
  have hpp : (Value.pointer (some ⟨w.heap.size, 0, none⟩)) = .pointer (some ⟨t0, 0, none⟩) := by rw [ht]
  rw [hpp]
  clear hpp ht hb1
  go_wp2_with fail
  refine (FF.out X1 BX1).mono ?_
  rintro e X2 ⟨rfl, hb2⟩
  have BX2 : Below w.heap.size w X2 := BX1.trans (hb2.mono BX1.size)
  have HA := Lib.hid (attrs_below HA.out hb2)
  have HK := Lib.hid (lies_below HK.out hb2)
  have Kt0 := Lib.hid ((hb2.block _ zt0).trans Kt0.out)
  have zt0 := Nat.lt_of_lt_of_le zt0 hb2.size
  clear hb2
  have d0 : X2.cell? ⟨t0, 0, none⟩ = some (.int .i64 th.k) := cell_of_block Kt0.out rfl
  have d1 : X2.cell? ⟨t0, 1, none⟩ = some (.string ⟨th.l.toArray⟩) := cell_of_block Kt0.out rfl
  have d2 : X2.cell? ⟨t0, 2, none⟩ = some (.slice aa0 th.ats.length ca0) := cell_of_block Kt0.out rfl
  have d3 : X2.cell? ⟨t0, 3, none⟩ = some (.int .i64 th.n) := cell_of_block Kt0.out rfl
  have d4 : X2.cell? ⟨t0, 4, none⟩ = some (.int .i64 th.d) := cell_of_block Kt0.out rfl
  have d5 : X2.cell? ⟨t0, 5, none⟩ = some (.string ⟨th.x.toArray⟩) := cell_of_block Kt0.out rfl
  have d6 : X2.cell? ⟨t0, 6, none⟩ = some (.slice ak0 tk.len ck0) := cell_of_block Kt0.out rfl
  have kk := World.alloc_heap_new X2 (.cells #[.int .i64 th.k, .string ⟨th.l.toArray⟩, .slice aa0 th.ats.length ca0, .int .i64 th.n, .int .i64 th.d, .string ⟨th.x.toArray⟩, .slice ak0 tk.len ck0] 43)
  have hb3 : Below X2.heap.size X2 (X2.alloc (.cells #[.int .i64 th.k, .string ⟨th.l.toArray⟩, .slice aa0 th.ats.length ca0, .int .i64 th.n, .int .i64 th.d, .string ⟨th.x.toArray⟩, .slice ak0 tk.len ck0] 43)) := (Below.refl _ _).alloc (Nat.le_refl _) _
  have HA := Lib.hid (attrs_below HA.out hb3)
  have HK := Lib.hid (lies_below HK.out hb3)
  have Kt0 := Lib.hid ((hb3.block _ zt0).trans Kt0.out)
  have zt0 := Nat.lt_of_lt_of_le zt0 hb3.size
  have LT := Lib.hid (lies_one kk HA.out HK.out)
  have BX3 : Below w.heap.size w (X2.alloc (.cells #[.int .i64 th.k, .string ⟨th.l.toArray⟩, .slice aa0 th.ats.length ca0, .int .i64 th.n, .int .i64 th.d, .string ⟨th.x.toArray⟩, .slice ak0 tk.len ck0] 43)) := BX2.trans (hb3.mono BX2.size)
  clear kk hb3
  go_wp2_with fail
  generalize X2.alloc (.cells #[.int .i64 th.k, .string ⟨th.l.toArray⟩, .slice aa0 th.ats.length ca0, .int .i64 th.n, .int .i64 th.d, .string ⟨th.x.toArray⟩, .slice ak0 tk.len ck0] 43) = X3 at *
  clear d0 d1 d2 d3 d4 d5 d6

  refine (FT.out X3 _ LT.out).mono ?_
  rintro e X4 ⟨rfl, hb4⟩
  have BX4 : Below w.heap.size w X4 := BX3.trans (hb4.mono BX3.size)
  have HA := Lib.hid (attrs_below HA.out hb4)
  have HK := Lib.hid (lies_below HK.out hb4)
  have Kt0 := Lib.hid ((hb4.block _ zt0).trans Kt0.out)
  have zt0 := Nat.lt_of_lt_of_le zt0 hb4.size
  clear LT
  clear hb4
  go_wp2_with fail
  refine (GR.out _).mono ?_
  rintro e X5 ⟨rfl, hb5⟩
  have BX5 : Below w.heap.size w X5 := BX4.trans (hb5.mono BX4.size)
  have HA := Lib.hid (attrs_below HA.out hb5)
  have HK := Lib.hid (lies_below HK.out hb5)
  have Kt0 := Lib.hid ((hb5.block _ zt0).trans Kt0.out)
  have zt0 := Nat.lt_of_lt_of_le zt0 hb5.size
  clear hb5
  go_wp2_with fail
  go_ret
  exact ⟨rfl, BX5⟩

set_option maxRecDepth 100000 in
set_option maxHeartbeats 8000000 in
theorem tcuts_none (f : Fo) (v : Value) (th : Hd) (tk : Fo) (va vk : Value) (a : Int) (w : World) (hl : Lies w v f) (ha : AttrsLie w va th.ats) (hk : Lies w vk tk)
    (hf : fitB f = true) (hf2 : fitB (.cons th tk .nil) = true) (hlen : f.len = 0) : Calls Tryz.prog 9 #[v, treeA th va vk, .int .u16 a] w fun e w' => e = .returned (.bool true) ∧ Below w.heap.size w w' := by
  have GR := Lib.hid (fun w => grown_any w)
  have FF := Lib.hid (fun W (hW : Below w.heap.size w W) => fit_any f v W (lies_below hl hW))
  have FT := Lib.hid (fun W y (h : Lies W y (.cons th tk .nil)) => fit_any (.cons th tk .nil) y W h)
  have HA := Lib.hid ha
  have HK := Lib.hid hk
  have BX0 := Below.refl w.heap.size w
  obtain ⟨av, cv, rfl⟩ := lies_form hl
  obtain ⟨aa0, ca0, rfl⟩ := attrs_form ha
  obtain ⟨ak0, ck0, rfl⟩ := lies_form hk
  unfold treeA
  rw [hf] at FF
  rw [hf2] at FT
  have eZ : ((f.len : Int) == 0) = true := by simp; omega
  clear hlen
  clear hl ha hk hf hf2
  go_enter Tryz.func9, Tryz.ntmps9
  go_upto_region 1 with fail
  have kk := World.alloc_heap_new w (.cells #[.int .i64 th.k, .string ⟨th.l.toArray⟩, .slice aa0 th.ats.length ca0, .int .i64 th.n, .int .i64 th.d, .string ⟨th.x.toArray⟩, .slice ak0 tk.len ck0] 43)
  have hb1 : Below w.heap.size w (w.alloc (.cells #[.int .i64 th.k, .string ⟨th.l.toArray⟩, .slice aa0 th.ats.length ca0, .int .i64 th.n, .int .i64 th.d, .string ⟨th.x.toArray⟩, .slice ak0 tk.len ck0] 43)) := (Below.refl _ _).alloc (Nat.le_refl _) _
  have zt0 : w.heap.size < (w.alloc (.cells #[.int .i64 th.k, .string ⟨th.l.toArray⟩, .slice aa0 th.ats.length ca0, .int .i64 th.n, .int .i64 th.d, .string ⟨th.x.toArray⟩, .slice ak0 tk.len ck0] 43)).heap.size := by simp
  generalize w.alloc (.cells #[.int .i64 th.k, .string ⟨th.l.toArray⟩, .slice aa0 th.ats.length ca0, .int .i64 th.n, .int .i64 th.d, .string ⟨th.x.toArray⟩, .slice ak0 tk.len ck0] 43) = X1 at *
  have BX1 : Below w.heap.size w X1 := hb1
  have Kt0 := Lib.hid kk
  clear kk
  have HA := Lib.hid (attrs_below HA.out hb1)
  have HK := Lib.hid (lies_below HK.out hb1)
  obtain ⟨t0, ht⟩ : ∃ t, t = w.heap.size := ⟨_, rfl⟩
  rw [← ht] at Kt0 zt0
  have hpp : (Value.pointer (some ⟨w.heap.size, 0, none⟩)) = .pointer (some ⟨t0, 0, none⟩) := by rw [ht]
  rw [hpp]
  clear hpp ht hb1
  go_wp2_with fail
  refine (FF.out X1 BX1).mono ?_
  rintro e X2 ⟨rfl, hb2⟩
  have BX2 : Below w.heap.size w X2 := BX1.trans (hb2.mono BX1.size)
  have HA := Lib.hid (attrs_below HA.out hb2)
  have HK := Lib.hid (lies_below HK.out hb2)
  have Kt0 := Lib.hid ((hb2.block _ zt0).trans Kt0.out)
  have zt0 := Nat.lt_of_lt_of_le zt0 hb2.size
  clear hb2
  have d0 : X2.cell? ⟨t0, 0, none⟩ = some (.int .i64 th.k) := cell_of_block Kt0.out rfl
  have d1 : X2.cell? ⟨t0, 1, none⟩ = some (.string ⟨th.l.toArray⟩) := cell_of_block Kt0.out rfl
  have d2 : X2.cell? ⟨t0, 2, none⟩ = some (.slice aa0 th.ats.length ca0) := cell_of_block Kt0.out rfl
  have d3 : X2.cell? ⟨t0, 3, none⟩ = some (.int .i64 th.n) := cell_of_block Kt0.out rfl
  have d4 : X2.cell? ⟨t0, 4, none⟩ = some (.int .i64 th.d) := cell_of_block Kt0.out rfl
  have d5 : X2.cell? ⟨t0, 5, none⟩ = some (.string ⟨th.x.toArray⟩) := cell_of_block Kt0.out rfl
  have d6 : X2.cell? ⟨t0, 6, none⟩ = some (.slice ak0 tk.len ck0) := cell_of_block Kt0.out rfl
  have kk := World.alloc_heap_new X2 (.cells #[.int .i64 th.k, .string ⟨th.l.toArray⟩, .slice aa0 th.ats.length ca0, .int .i64 th.n, .int .i64 th.d, .string ⟨th.x.toArray⟩, .slice ak0 tk.len ck0] 43)
  have hb3 : Below X2.heap.size X2 (X2.alloc (.cells #[.int .i64 th.k, .string ⟨th.l.toArray⟩, .slice aa0 th.ats.length ca0, .int .i64 th.n, .int .i64 th.d, .string ⟨th.x.toArray⟩, .slice ak0 tk.len ck0] 43)) := (Below.refl _ _).alloc (Nat.le_refl _) _
  have HA := Lib.hid (attrs_below HA.out hb3)
  have HK := Lib.hid (lies_below HK.out hb3)
  have Kt0 := Lib.hid ((hb3.block _ zt0).trans Kt0.out)
  have zt0 := Nat.lt_of_lt_of_le zt0 hb3.size
  have LT := Lib.hid (lies_one kk HA.out HK.out)
  have BX3 : Below w.heap.size w (X2.alloc (.cells #[.int .i64 th.k, .string ⟨th.l.toArray⟩, .slice aa0 th.ats.length ca0, .int .i64 th.n, .int .i64 th.d, .string ⟨th.x.toArray⟩, .slice ak0 tk.len ck0] 43)) := BX2.trans (hb3.mono BX2.size)
  clear kk hb3
  go_wp2_with fail
  generalize X2.alloc (.cells #[.int .i64 th.k, .string ⟨th.l.toArray⟩, .slice aa0 th.ats.length ca0, .int .i64 th.n, .int .i64 th.d, .string ⟨th.x.toArray⟩, .slice ak0 tk.len ck0] 43) = X3 at *
  clear d0 d1 d2 d3 d4 d5 d6

  refine (FT.out X3 _ LT.out).mono ?_
  rintro e X4 ⟨rfl, hb4⟩
  have BX4 : Below w.heap.size w X4 := BX3.trans (hb4.mono BX3.size)
  have HA := Lib.hid (attrs_below HA.out hb4)
  have HK := Lib.hid (lies_below HK.out hb4)
  have Kt0 := Lib.hid ((hb4.block _ zt0).trans Kt0.out)
  have zt0 := Nat.lt_of_lt_of_le zt0 hb4.size
  clear LT
  clear hb4
  go_wp2_with fail
  refine (GR.out _).mono ?_
  rintro e X5 ⟨rfl, hb5⟩
  have BX5 : Below w.heap.size w X5 := BX4.trans (hb5.mono BX4.size)
  have HA := Lib.hid (attrs_below HA.out hb5)
  have HK := Lib.hid (lies_below HK.out hb5)
  have Kt0 := Lib.hid ((hb5.block _ zt0).trans Kt0.out)
  have zt0 := Nat.lt_of_lt_of_le zt0 hb5.size
  clear hb5
  go_wp2_with fail
  go_ret
  exact ⟨rfl, BX5⟩

set_option maxRecDepth 100000 in
set_option maxHeartbeats 8000000 in
theorem tcuts_err4 (f : Fo) (v : Value) (th : Hd) (tk : Fo) (va vk : Value) (a : Nat) (w : World) (hl : Lies w v f) (ha : AttrsLie w va th.ats) (hk : Lies w vk tk) (ka : Nat) (x : Vis) (hf : fitB f = true) (hf2 : fitB (.cons th tk .nil) = true) (hlen : f.len ≠ 0) (hma : a ≤ 65535) (hx : (seqAt [] 0 f)[ka]? = some x) (hka : Int.tmod (a : Int) (f.size : Int) = (ka : Int))
    (hbe : (insV f (pathInts x.p) (.cons th tk .nil)) = (.nil, 4)) :
    Calls Tryz.prog 9 #[v, treeA th va vk, .int .u16 (a : Int)] w fun e w' => e = .returned (.bool true) ∧ Below w.heap.size w w' := by
  have GR := Lib.hid (fun w => grown_any w)
  have FF := Lib.hid (fun W (hW : Below w.heap.size w W) => fit_any f v W (lies_below hl hW))
  have FT := Lib.hid (fun W y (h : Lies W y (.cons th tk .nil)) => fit_any (.cons th tk .nil) y W h)
  have HA := Lib.hid ha
  have HK := Lib.hid hk
  have BX0 := Below.refl w.heap.size w
  obtain ⟨av, cv, rfl⟩ := lies_form hl
  obtain ⟨aa0, ca0, rfl⟩ := attrs_form ha
  obtain ⟨ak0, ck0, rfl⟩ := lies_form hk
  unfold treeA
  have h0 := (fit_parts hf).2
  have t0 := (fit_parts hf2).2
  have hs := small_ok h0
  have ts := small_ok t0
  rw [hf] at FF
  rw [hf2] at FT
  obtain ⟨q, i, g, ep, hg, hn⟩ := vis_split (List.mem_of_getElem? hx)
  have xm := List.mem_of_getElem? hx
  obtain ⟨⟨pc1, zL, sL, pc4⟩, pi1, pi2⟩ := cut_vals h0 t0 hg hn
  rw [← ep] at pc1 pc4 pi1 pi2
  have px := path_len xm
  have hsz := hs.size
  simp only [List.length_nil, Nat.zero_add] at px
  have hpx : x.p.length ≤ 1000000 := by omega
  have hpl : (pathInts x.p).length ≤ 1000000 := by simpa using hpx
  have zw := one_ok (place_at xm) h0
  have ls := small_ok zL
  have CX := Lib.hid (fun W (hW : Below w.heap.size w W) => chosen_any f _ a ka x W (lies_below hl hW) hs.size hma hx hka)
  have SZ := Lib.hid (fun W (hW : Below w.heap.size w W) => tsize_any f _ W (lies_below hl hW) hs)
  rw [size_val h0] at SZ
  have ST := Lib.hid (fun W y (h : Lies W y (.cons th tk .nil)) => tsize_any (.cons th tk .nil) y W h ts)
  rw [size_val t0, show (Fo.cons th tk .nil).size = tk.size + 1 from rfl] at ST
  have SW := Lib.hid (fun W y (h : Lies W y (.cons x.h x.ks .nil)) => tsize_any (.cons x.h x.ks .nil) y W h (small_ok zw))
  rw [size_val zw, show (Fo.cons x.h x.ks .nil).size = x.ks.size + 1 from rfl] at SW
  have AX := Lib.hid (fun W (hW : Below w.heap.size w W) pv (hp : IntsLie W pv (pathInts x.p)) => (at_any f (pathInts x.p) _ pv W (lies_below hl hW) hs hp hpl).mono fun _ _ h => at_ok (at_val h0 xm) (place_at xm) h)
  have CU := Lib.hid (fun W (hW : Below w.heap.size w W) pv (hp : IntsLie W pv (pathInts x.p)) => tcut_any f (pathInts x.p) _ pv W (lies_below hl hW) hp hpl hs)
  rw [pc1] at CU
  have SL := Lib.hid (fun W y (h : Lies W y (changeAt f q (spl g i 1 .nil))) => tsize_any (changeAt f q (spl g i 1 .nil)) y W h ls)
  rw [size_val zL] at SL
  have IB := Lib.hid (fun W u pv aa ca ak ck (h : Lies W u (changeAt f q (spl g i 1 .nil))) (hp : IntsLie W pv (pathInts x.p)) (h1 : AttrsLie W (.slice aa x.h.ats.length ca) x.h.ats) (h2 : Lies W (.slice ak x.ks.len ck) x.ks) => tinsert_any (changeAt f q (spl g i 1 .nil)) (pathInts x.p) x.h x.ks u pv aa ca ak ck W h hp hpl h1 h2 ls (small_ok zw))
  rw [pc4] at IB
  unfold aggOf at IB
  have IN := Lib.hid (fun W (hW : Below w.heap.size w W) pv aa ca ak ck (hp : IntsLie W pv (pathInts x.p)) (h1 : AttrsLie W (.slice aa th.ats.length ca) th.ats) (h2 : Lies W (.slice ak tk.len ck) tk) => tinsert_any f (pathInts x.p) th tk _ pv aa ca ak ck W (lies_below hl hW) hp hpl h1 h2 hs ts)
  rw [pi1] at IN
  unfold aggOf at IN
  have SR := Lib.hid (fun (F : Fo) x y W (h1 : Lies W x F) (h2 : Lies W y F) => same_refl F.size F (Nat.le_refl _) x y W h1 h2)
  have FL := Lib.hid (fun W (hW : Below w.heap.size w W) => lies_below hl hW)
  rw [pi1] at hbe
  rw [hbe] at IN
  have eZ : ((f.len : Int) == 0) = false := by simp; omega
  have hfl : 0 < f.len := by omega
  have n1 : (((changeAt f q (spl g i 1 .nil)).size : Int) != ((f.size : Int) - ((x.ks.size : Int) + 1))) = false := by simp; omega
  have m1 : f.size ≤ 400 := (fo_zero.1 h0).1
  have m2 : tk.size + 1 ≤ 400 := by have := (fo_zero.1 t0).1; simp only [Fo.size] at this; omega
  have m3 : x.ks.size + 1 ≤ f.size := by omega
  clear hl ha hk hf hf2 hx h0 t0 hs ts px hsz hpx hpl hka hma hlen xm pc1 zL sL pc4 pi1 pi2 hg hn ep zw ls hbe
  generalize changeAt f q (spl g i 1 .nil) = L at *
  generalize x.p = xp at *
  generalize x.h = xh at *
  generalize x.ks = xk at *
  go_enter Tryz.func9, Tryz.ntmps9
  go_upto_region 1 with fail
  have kk := World.alloc_heap_new w (.cells #[.int .i64 th.k, .string ⟨th.l.toArray⟩, .slice aa0 th.ats.length ca0, .int .i64 th.n, .int .i64 th.d, .string ⟨th.x.toArray⟩, .slice ak0 tk.len ck0] 43)
  have hb1 : Below w.heap.size w (w.alloc (.cells #[.int .i64 th.k, .string ⟨th.l.toArray⟩, .slice aa0 th.ats.length ca0, .int .i64 th.n, .int .i64 th.d, .string ⟨th.x.toArray⟩, .slice ak0 tk.len ck0] 43)) := (Below.refl _ _).alloc (Nat.le_refl _) _
  have zt0 : w.heap.size < (w.alloc (.cells #[.int .i64 th.k, .string ⟨th.l.toArray⟩, .slice aa0 th.ats.length ca0, .int .i64 th.n, .int .i64 th.d, .string ⟨th.x.toArray⟩, .slice ak0 tk.len ck0] 43)).heap.size := by simp
  generalize w.alloc (.cells #[.int .i64 th.k, .string ⟨th.l.toArray⟩, .slice aa0 th.ats.length ca0, .int .i64 th.n, .int .i64 th.d, .string ⟨th.x.toArray⟩, .slice ak0 tk.len ck0] 43) = X1 at *
  have BX1 : Below w.heap.size w X1 := hb1
  have Kt0 := Lib.hid kk
  clear kk
  have HA := Lib.hid (attrs_below HA.out hb1)
  have HK := Lib.hid (lies_below HK.out hb1)
  obtain ⟨t0, ht⟩ : ∃ t, t = w.heap.size := ⟨_, rfl⟩
  rw [← ht] at Kt0 zt0
  have hpp : (Value.pointer (some ⟨w.heap.size, 0, none⟩)) = .pointer (some ⟨t0, 0, none⟩) := by rw [ht]
  rw [hpp]
  clear hpp ht hb1
  go_wp2_with fail
  refine (FF.out X1 BX1).mono ?_
  rintro e X2 ⟨rfl, hb2⟩
  have BX2 : Below w.heap.size w X2 := BX1.trans (hb2.mono BX1.size)
  have HA := Lib.hid (attrs_below HA.out hb2)
  have HK := Lib.hid (lies_below HK.out hb2)
  have Kt0 := Lib.hid ((hb2.block _ zt0).trans Kt0.out)
  have zt0 := Nat.lt_of_lt_of_le zt0 hb2.size
  clear hb2
  have d0 : X2.cell? ⟨t0, 0, none⟩ = some (.int .i64 th.k) := cell_of_block Kt0.out rfl
  have d1 : X2.cell? ⟨t0, 1, none⟩ = some (.string ⟨th.l.toArray⟩) := cell_of_block Kt0.out rfl
  have d2 : X2.cell? ⟨t0, 2, none⟩ = some (.slice aa0 th.ats.length ca0) := cell_of_block Kt0.out rfl
  have d3 : X2.cell? ⟨t0, 3, none⟩ = some (.int .i64 th.n) := cell_of_block Kt0.out rfl
  have d4 : X2.cell? ⟨t0, 4, none⟩ = some (.int .i64 th.d) := cell_of_block Kt0.out rfl
  have d5 : X2.cell? ⟨t0, 5, none⟩ = some (.string ⟨th.x.toArray⟩) := cell_of_block Kt0.out rfl
  have d6 : X2.cell? ⟨t0, 6, none⟩ = some (.slice ak0 tk.len ck0) := cell_of_block Kt0.out rfl
  have kk := World.alloc_heap_new X2 (.cells #[.int .i64 th.k, .string ⟨th.l.toArray⟩, .slice aa0 th.ats.length ca0, .int .i64 th.n, .int .i64 th.d, .string ⟨th.x.toArray⟩, .slice ak0 tk.len ck0] 43)
  have hb3 : Below X2.heap.size X2 (X2.alloc (.cells #[.int .i64 th.k, .string ⟨th.l.toArray⟩, .slice aa0 th.ats.length ca0, .int .i64 th.n, .int .i64 th.d, .string ⟨th.x.toArray⟩, .slice ak0 tk.len ck0] 43)) := (Below.refl _ _).alloc (Nat.le_refl _) _
  have HA := Lib.hid (attrs_below HA.out hb3)
  have HK := Lib.hid (lies_below HK.out hb3)
  have Kt0 := Lib.hid ((hb3.block _ zt0).trans Kt0.out)
  have zt0 := Nat.lt_of_lt_of_le zt0 hb3.size
  have LT := Lib.hid (lies_one kk HA.out HK.out)
  have BX3 : Below w.heap.size w (X2.alloc (.cells #[.int .i64 th.k, .string ⟨th.l.toArray⟩, .slice aa0 th.ats.length ca0, .int .i64 th.n, .int .i64 th.d, .string ⟨th.x.toArray⟩, .slice ak0 tk.len ck0] 43)) := BX2.trans (hb3.mono BX2.size)
  clear kk hb3
  go_wp2_with fail
  generalize X2.alloc (.cells #[.int .i64 th.k, .string ⟨th.l.toArray⟩, .slice aa0 th.ats.length ca0, .int .i64 th.n, .int .i64 th.d, .string ⟨th.x.toArray⟩, .slice ak0 tk.len ck0] 43) = X3 at *
  clear d0 d1 d2 d3 d4 d5 d6

  refine (FT.out X3 _ LT.out).mono ?_
  rintro e X4 ⟨rfl, hb4⟩
  have BX4 : Below w.heap.size w X4 := BX3.trans (hb4.mono BX3.size)
  have HA := Lib.hid (attrs_below HA.out hb4)
  have HK := Lib.hid (lies_below HK.out hb4)
  have Kt0 := Lib.hid ((hb4.block _ zt0).trans Kt0.out)
  have zt0 := Nat.lt_of_lt_of_le zt0 hb4.size
  clear LT
  clear hb4
  go_wp2_with fail
  refine (CX.out X4 BX4).mono ?_
  rintro e X5 ⟨aP, cP, rfl, hP, hb5⟩
  have BX5 : Below w.heap.size w X5 := BX4.trans (hb5.mono BX4.size)
  have HA := Lib.hid (attrs_below HA.out hb5)
  have HK := Lib.hid (lies_below HK.out hb5)
  have Kt0 := Lib.hid ((hb5.block _ zt0).trans Kt0.out)
  have zt0 := Nat.lt_of_lt_of_le zt0 hb5.size
  have HP := Lib.hid (intsF_lies hP)
  clear hP CX
  clear hb5
  go_wp2_with fail
  refine (SZ.out X5 BX5).mono ?_
  rintro e X6 ⟨rfl, hb6⟩
  have BX6 : Below w.heap.size w X6 := BX5.trans (hb6.mono BX5.size)
  have HA := Lib.hid (attrs_below HA.out hb6)
  have HK := Lib.hid (lies_below HK.out hb6)
  have HP := Lib.hid (ints_below HP.out hb6)
  have Kt0 := Lib.hid ((hb6.block _ zt0).trans Kt0.out)
  have zt0 := Nat.lt_of_lt_of_le zt0 hb6.size
  clear hb6
  have d0 : X6.cell? ⟨t0, 0, none⟩ = some (.int .i64 th.k) := cell_of_block Kt0.out rfl
  have d1 : X6.cell? ⟨t0, 1, none⟩ = some (.string ⟨th.l.toArray⟩) := cell_of_block Kt0.out rfl
  have d2 : X6.cell? ⟨t0, 2, none⟩ = some (.slice aa0 th.ats.length ca0) := cell_of_block Kt0.out rfl
  have d3 : X6.cell? ⟨t0, 3, none⟩ = some (.int .i64 th.n) := cell_of_block Kt0.out rfl
  have d4 : X6.cell? ⟨t0, 4, none⟩ = some (.int .i64 th.d) := cell_of_block Kt0.out rfl
  have d5 : X6.cell? ⟨t0, 5, none⟩ = some (.string ⟨th.x.toArray⟩) := cell_of_block Kt0.out rfl
  have d6 : X6.cell? ⟨t0, 6, none⟩ = some (.slice ak0 tk.len ck0) := cell_of_block Kt0.out rfl
  have kk := World.alloc_heap_new X6 (.cells #[.int .i64 th.k, .string ⟨th.l.toArray⟩, .slice aa0 th.ats.length ca0, .int .i64 th.n, .int .i64 th.d, .string ⟨th.x.toArray⟩, .slice ak0 tk.len ck0] 43)
  have hb7 : Below X6.heap.size X6 (X6.alloc (.cells #[.int .i64 th.k, .string ⟨th.l.toArray⟩, .slice aa0 th.ats.length ca0, .int .i64 th.n, .int .i64 th.d, .string ⟨th.x.toArray⟩, .slice ak0 tk.len ck0] 43)) := (Below.refl _ _).alloc (Nat.le_refl _) _
  have HA := Lib.hid (attrs_below HA.out hb7)
  have HK := Lib.hid (lies_below HK.out hb7)
  have HP := Lib.hid (ints_below HP.out hb7)
  have Kt0 := Lib.hid ((hb7.block _ zt0).trans Kt0.out)
  have zt0 := Nat.lt_of_lt_of_le zt0 hb7.size
  have LT := Lib.hid (lies_one kk HA.out HK.out)
  have BX7 : Below w.heap.size w (X6.alloc (.cells #[.int .i64 th.k, .string ⟨th.l.toArray⟩, .slice aa0 th.ats.length ca0, .int .i64 th.n, .int .i64 th.d, .string ⟨th.x.toArray⟩, .slice ak0 tk.len ck0] 43)) := BX6.trans (hb7.mono BX6.size)
  clear kk hb7
  go_wp2_with fail
  generalize X6.alloc (.cells #[.int .i64 th.k, .string ⟨th.l.toArray⟩, .slice aa0 th.ats.length ca0, .int .i64 th.n, .int .i64 th.d, .string ⟨th.x.toArray⟩, .slice ak0 tk.len ck0] 43) = X7 at *
  clear d0 d1 d2 d3 d4 d5 d6

  refine (ST.out X7 _ LT.out).mono ?_
  rintro e X8 ⟨rfl, hb8⟩
  have BX8 : Below w.heap.size w X8 := BX7.trans (hb8.mono BX7.size)
  have HA := Lib.hid (attrs_below HA.out hb8)
  have HK := Lib.hid (lies_below HK.out hb8)
  have HP := Lib.hid (ints_below HP.out hb8)
  have Kt0 := Lib.hid ((hb8.block _ zt0).trans Kt0.out)
  have zt0 := Nat.lt_of_lt_of_le zt0 hb8.size
  clear LT
  clear hb8
  go_wp2_with fail
  refine (AX.out X8 BX8 _ HP.out).mono ?_
  rintro e X9 ⟨aa1, ca1, ak1, ck1, rfl, hA, hK, hb9⟩
  have BX9 : Below w.heap.size w X9 := BX8.trans (hb9.mono BX8.size)
  have HA := Lib.hid (attrs_below HA.out hb9)
  have HK := Lib.hid (lies_below HK.out hb9)
  have HP := Lib.hid (ints_below HP.out hb9)
  have Kt0 := Lib.hid ((hb9.block _ zt0).trans Kt0.out)
  have zt0 := Nat.lt_of_lt_of_le zt0 hb9.size
  unfold aggOf
  have HA1 := Lib.hid hA
  have HK1 := Lib.hid hK
  clear hA hK AX
  clear hb9
  go_upto_region 7 with fail
  have kk := World.alloc_heap_new X9 (.cells #[.int .i64 xh.k, .string ⟨xh.l.toArray⟩, .slice aa1 xh.ats.length ca1, .int .i64 xh.n, .int .i64 xh.d, .string ⟨xh.x.toArray⟩, .slice ak1 xk.len ck1] 43)
  have hb10 : Below X9.heap.size X9 (X9.alloc (.cells #[.int .i64 xh.k, .string ⟨xh.l.toArray⟩, .slice aa1 xh.ats.length ca1, .int .i64 xh.n, .int .i64 xh.d, .string ⟨xh.x.toArray⟩, .slice ak1 xk.len ck1] 43)) := (Below.refl _ _).alloc (Nat.le_refl _) _
  have zt1 : X9.heap.size < (X9.alloc (.cells #[.int .i64 xh.k, .string ⟨xh.l.toArray⟩, .slice aa1 xh.ats.length ca1, .int .i64 xh.n, .int .i64 xh.d, .string ⟨xh.x.toArray⟩, .slice ak1 xk.len ck1] 43)).heap.size := by simp
  generalize X9.alloc (.cells #[.int .i64 xh.k, .string ⟨xh.l.toArray⟩, .slice aa1 xh.ats.length ca1, .int .i64 xh.n, .int .i64 xh.d, .string ⟨xh.x.toArray⟩, .slice ak1 xk.len ck1] 43) = X10 at *
  have BX10 : Below w.heap.size w X10 := BX9.trans (hb10.mono BX9.size)
  have Kt1 := Lib.hid kk
  clear kk
  have HA := Lib.hid (attrs_below HA.out hb10)
  have HK := Lib.hid (lies_below HK.out hb10)
  have HP := Lib.hid (ints_below HP.out hb10)
  have HA1 := Lib.hid (attrs_below HA1.out hb10)
  have HK1 := Lib.hid (lies_below HK1.out hb10)
  have Kt0 := Lib.hid ((hb10.block _ zt0).trans Kt0.out)
  have zt0 := Nat.lt_of_lt_of_le zt0 hb10.size
  obtain ⟨t1, ht⟩ : ∃ t, t = X9.heap.size := ⟨_, rfl⟩
  rw [← ht] at Kt1 zt1
  rw [← ht]
  clear ht hb10
  have d0 : X10.cell? ⟨t1, 0, none⟩ = some (.int .i64 xh.k) := cell_of_block Kt1.out rfl
  have d1 : X10.cell? ⟨t1, 1, none⟩ = some (.string ⟨xh.l.toArray⟩) := cell_of_block Kt1.out rfl
  have d2 : X10.cell? ⟨t1, 2, none⟩ = some (.slice aa1 xh.ats.length ca1) := cell_of_block Kt1.out rfl
  have d3 : X10.cell? ⟨t1, 3, none⟩ = some (.int .i64 xh.n) := cell_of_block Kt1.out rfl
  have d4 : X10.cell? ⟨t1, 4, none⟩ = some (.int .i64 xh.d) := cell_of_block Kt1.out rfl
  have d5 : X10.cell? ⟨t1, 5, none⟩ = some (.string ⟨xh.x.toArray⟩) := cell_of_block Kt1.out rfl
  have d6 : X10.cell? ⟨t1, 6, none⟩ = some (.slice ak1 xk.len ck1) := cell_of_block Kt1.out rfl
  have kk := World.alloc_heap_new X10 (.cells #[.int .i64 xh.k, .string ⟨xh.l.toArray⟩, .slice aa1 xh.ats.length ca1, .int .i64 xh.n, .int .i64 xh.d, .string ⟨xh.x.toArray⟩, .slice ak1 xk.len ck1] 43)
  have hb11 : Below X10.heap.size X10 (X10.alloc (.cells #[.int .i64 xh.k, .string ⟨xh.l.toArray⟩, .slice aa1 xh.ats.length ca1, .int .i64 xh.n, .int .i64 xh.d, .string ⟨xh.x.toArray⟩, .slice ak1 xk.len ck1] 43)) := (Below.refl _ _).alloc (Nat.le_refl _) _
  have HA := Lib.hid (attrs_below HA.out hb11)
  have HK := Lib.hid (lies_below HK.out hb11)
  have HP := Lib.hid (ints_below HP.out hb11)
  have HA1 := Lib.hid (attrs_below HA1.out hb11)
  have HK1 := Lib.hid (lies_below HK1.out hb11)
  have Kt0 := Lib.hid ((hb11.block _ zt0).trans Kt0.out)
  have zt0 := Nat.lt_of_lt_of_le zt0 hb11.size
  have Kt1 := Lib.hid ((hb11.block _ zt1).trans Kt1.out)
  have zt1 := Nat.lt_of_lt_of_le zt1 hb11.size
  have LT := Lib.hid (lies_one kk HA1.out HK1.out)
  have BX11 : Below w.heap.size w (X10.alloc (.cells #[.int .i64 xh.k, .string ⟨xh.l.toArray⟩, .slice aa1 xh.ats.length ca1, .int .i64 xh.n, .int .i64 xh.d, .string ⟨xh.x.toArray⟩, .slice ak1 xk.len ck1] 43)) := BX10.trans (hb11.mono BX10.size)
  clear kk hb11
  go_wp2_with fail
  generalize X10.alloc (.cells #[.int .i64 xh.k, .string ⟨xh.l.toArray⟩, .slice aa1 xh.ats.length ca1, .int .i64 xh.n, .int .i64 xh.d, .string ⟨xh.x.toArray⟩, .slice ak1 xk.len ck1] 43) = X11 at *
  clear d0 d1 d2 d3 d4 d5 d6

  refine (SW.out X11 _ LT.out).mono ?_
  rintro e X12 ⟨rfl, hb12⟩
  have BX12 : Below w.heap.size w X12 := BX11.trans (hb12.mono BX11.size)
  have HA := Lib.hid (attrs_below HA.out hb12)
  have HK := Lib.hid (lies_below HK.out hb12)
  have HP := Lib.hid (ints_below HP.out hb12)
  have HA1 := Lib.hid (attrs_below HA1.out hb12)
  have HK1 := Lib.hid (lies_below HK1.out hb12)
  have Kt0 := Lib.hid ((hb12.block _ zt0).trans Kt0.out)
  have zt0 := Nat.lt_of_lt_of_le zt0 hb12.size
  have Kt1 := Lib.hid ((hb12.block _ zt1).trans Kt1.out)
  have zt1 := Nat.lt_of_lt_of_le zt1 hb12.size
  clear LT
  clear hb12
  go_wp2_with fail
  refine (CU.out X12 BX12 _ HP.out).mono ?_
  rintro e X13 ⟨v4, rfl, hG, hb13⟩
  have BX13 : Below w.heap.size w X13 := BX12.trans (hb13.mono BX12.size)
  have HA := Lib.hid (attrs_below HA.out hb13)
  have HK := Lib.hid (lies_below HK.out hb13)
  have HP := Lib.hid (ints_below HP.out hb13)
  have HA1 := Lib.hid (attrs_below HA1.out hb13)
  have HK1 := Lib.hid (lies_below HK1.out hb13)
  have Kt0 := Lib.hid ((hb13.block _ zt0).trans Kt0.out)
  have zt0 := Nat.lt_of_lt_of_le zt0 hb13.size
  have Kt1 := Lib.hid ((hb13.block _ zt1).trans Kt1.out)
  have zt1 := Nat.lt_of_lt_of_le zt1 hb13.size
  have HL := Lib.hid (liesF_lies hG)
  obtain ⟨a4, c4, rfl⟩ := liesF_form hG
  clear hG CU
  clear hb13
  go_wp2_with fail
  refine (SL.out X13 _ HL.out).mono ?_
  rintro e X14 ⟨rfl, hb14⟩
  have BX14 : Below w.heap.size w X14 := BX13.trans (hb14.mono BX13.size)
  have HA := Lib.hid (attrs_below HA.out hb14)
  have HK := Lib.hid (lies_below HK.out hb14)
  have HP := Lib.hid (ints_below HP.out hb14)
  have HA1 := Lib.hid (attrs_below HA1.out hb14)
  have HK1 := Lib.hid (lies_below HK1.out hb14)
  have HL := Lib.hid (lies_below HL.out hb14)
  have Kt0 := Lib.hid ((hb14.block _ zt0).trans Kt0.out)
  have zt0 := Nat.lt_of_lt_of_le zt0 hb14.size
  have Kt1 := Lib.hid ((hb14.block _ zt1).trans Kt1.out)
  have zt1 := Nat.lt_of_lt_of_le zt1 hb14.size
  clear hb14
  have d0 : X14.cell? ⟨t1, 0, none⟩ = some (.int .i64 xh.k) := cell_of_block Kt1.out rfl
  have d1 : X14.cell? ⟨t1, 1, none⟩ = some (.string ⟨xh.l.toArray⟩) := cell_of_block Kt1.out rfl
  have d2 : X14.cell? ⟨t1, 2, none⟩ = some (.slice aa1 xh.ats.length ca1) := cell_of_block Kt1.out rfl
  have d3 : X14.cell? ⟨t1, 3, none⟩ = some (.int .i64 xh.n) := cell_of_block Kt1.out rfl
  have d4 : X14.cell? ⟨t1, 4, none⟩ = some (.int .i64 xh.d) := cell_of_block Kt1.out rfl
  have d5 : X14.cell? ⟨t1, 5, none⟩ = some (.string ⟨xh.x.toArray⟩) := cell_of_block Kt1.out rfl
  have d6 : X14.cell? ⟨t1, 6, none⟩ = some (.slice ak1 xk.len ck1) := cell_of_block Kt1.out rfl
  go_wp2_with fail
  refine (IB.out X14 _ _ _ _ _ _ HL.out HP.out HA1.out HK1.out).mono ?_
  rintro e X15 ⟨v5, rfl, hH, hb15⟩
  have BX15 : Below w.heap.size w X15 := BX14.trans (hb15.mono BX14.size)
  have HA := Lib.hid (attrs_below HA.out hb15)
  have HK := Lib.hid (lies_below HK.out hb15)
  have HP := Lib.hid (ints_below HP.out hb15)
  have HA1 := Lib.hid (attrs_below HA1.out hb15)
  have HK1 := Lib.hid (lies_below HK1.out hb15)
  have HL := Lib.hid (lies_below HL.out hb15)
  have Kt0 := Lib.hid ((hb15.block _ zt0).trans Kt0.out)
  have zt0 := Nat.lt_of_lt_of_le zt0 hb15.size
  have Kt1 := Lib.hid ((hb15.block _ zt1).trans Kt1.out)
  have zt1 := Nat.lt_of_lt_of_le zt1 hb15.size
  have HH := Lib.hid (liesF_lies hH)
  obtain ⟨a5, c5, rfl⟩ := liesF_form hH
  clear hH IB
  clear hb15
  clear d0 d1 d2 d3 d4 d5 d6
  clear Kt1 zt1
  clear HA1 HK1
  go_wp2_with fail
  refine (SR.out _ _ _ X15 HH.out (FL.out X15 BX15)).mono ?_
  rintro e X16 ⟨rfl, hb16⟩
  have BX16 : Below w.heap.size w X16 := BX15.trans (hb16.mono BX15.size)
  have HA := Lib.hid (attrs_below HA.out hb16)
  have HK := Lib.hid (lies_below HK.out hb16)
  have HP := Lib.hid (ints_below HP.out hb16)
  have HL := Lib.hid (lies_below HL.out hb16)
  have HH := Lib.hid (lies_below HH.out hb16)
  have Kt0 := Lib.hid ((hb16.block _ zt0).trans Kt0.out)
  have zt0 := Nat.lt_of_lt_of_le zt0 hb16.size
  clear hb16
  clear HH
  have d0 : X16.cell? ⟨t0, 0, none⟩ = some (.int .i64 th.k) := cell_of_block Kt0.out rfl
  have d1 : X16.cell? ⟨t0, 1, none⟩ = some (.string ⟨th.l.toArray⟩) := cell_of_block Kt0.out rfl
  have d2 : X16.cell? ⟨t0, 2, none⟩ = some (.slice aa0 th.ats.length ca0) := cell_of_block Kt0.out rfl
  have d3 : X16.cell? ⟨t0, 3, none⟩ = some (.int .i64 th.n) := cell_of_block Kt0.out rfl
  have d4 : X16.cell? ⟨t0, 4, none⟩ = some (.int .i64 th.d) := cell_of_block Kt0.out rfl
  have d5 : X16.cell? ⟨t0, 5, none⟩ = some (.string ⟨th.x.toArray⟩) := cell_of_block Kt0.out rfl
  have d6 : X16.cell? ⟨t0, 6, none⟩ = some (.slice ak0 tk.len ck0) := cell_of_block Kt0.out rfl
  go_wp2_with fail
  refine (IN.out X16 BX16 _ _ _ _ _ HP.out HA.out HK.out).mono ?_
  rintro e X17 ⟨v6, rfl, hG, hb17⟩
  have BX17 : Below w.heap.size w X17 := BX16.trans (hb17.mono BX16.size)
  have HA := Lib.hid (attrs_below HA.out hb17)
  have HK := Lib.hid (lies_below HK.out hb17)
  have HP := Lib.hid (ints_below HP.out hb17)
  have HL := Lib.hid (lies_below HL.out hb17)
  have Kt0 := Lib.hid ((hb17.block _ zt0).trans Kt0.out)
  have zt0 := Nat.lt_of_lt_of_le zt0 hb17.size
  have HS := Lib.hid (liesF_lies hG)
  obtain ⟨a6, c6, rfl⟩ := liesF_form hG
  clear hG IN
  clear hb17
  clear d0 d1 d2 d3 d4 d5 d6
  go_wp2_with fail
  refine (GR.out _).mono ?_
  rintro e X18 ⟨rfl, hb18⟩
  have BX18 : Below w.heap.size w X18 := BX17.trans (hb18.mono BX17.size)
  have HA := Lib.hid (attrs_below HA.out hb18)
  have HK := Lib.hid (lies_below HK.out hb18)
  have HP := Lib.hid (ints_below HP.out hb18)
  have HL := Lib.hid (lies_below HL.out hb18)
  have Kt0 := Lib.hid ((hb18.block _ zt0).trans Kt0.out)
  have zt0 := Nat.lt_of_lt_of_le zt0 hb18.size
  clear hb18
  go_wp2_with fail
  go_ret
  exact ⟨rfl, BX18⟩

set_option maxRecDepth 100000 in
set_option maxHeartbeats 8000000 in
theorem tcuts_err8 (f : Fo) (v : Value) (th : Hd) (tk : Fo) (va vk : Value) (a : Nat) (w : World) (hl : Lies w v f) (ha : AttrsLie w va th.ats) (hk : Lies w vk tk) (ka : Nat) (x : Vis) (hf : fitB f = true) (hf2 : fitB (.cons th tk .nil) = true) (hlen : f.len ≠ 0) (hma : a ≤ 65535) (hx : (seqAt [] 0 f)[ka]? = some x) (hka : Int.tmod (a : Int) (f.size : Int) = (ka : Int))
    (hbe : (insV f (pathInts x.p) (.cons th tk .nil)) = (.nil, 8)) :
    Calls Tryz.prog 9 #[v, treeA th va vk, .int .u16 (a : Int)] w fun e w' => e = .returned (.bool true) ∧ Below w.heap.size w w' := by
  have GR := Lib.hid (fun w => grown_any w)
  have FF := Lib.hid (fun W (hW : Below w.heap.size w W) => fit_any f v W (lies_below hl hW))
  have FT := Lib.hid (fun W y (h : Lies W y (.cons th tk .nil)) => fit_any (.cons th tk .nil) y W h)
  have HA := Lib.hid ha
  have HK := Lib.hid hk
  have BX0 := Below.refl w.heap.size w
  obtain ⟨av, cv, rfl⟩ := lies_form hl
  obtain ⟨aa0, ca0, rfl⟩ := attrs_form ha
  obtain ⟨ak0, ck0, rfl⟩ := lies_form hk
  unfold treeA
  have h0 := (fit_parts hf).2
  have t0 := (fit_parts hf2).2
  have hs := small_ok h0
  have ts := small_ok t0
  rw [hf] at FF
  rw [hf2] at FT
  obtain ⟨q, i, g, ep, hg, hn⟩ := vis_split (List.mem_of_getElem? hx)
  have xm := List.mem_of_getElem? hx
  obtain ⟨⟨pc1, zL, sL, pc4⟩, pi1, pi2⟩ := cut_vals h0 t0 hg hn
  rw [← ep] at pc1 pc4 pi1 pi2
  have px := path_len xm
  have hsz := hs.size
  simp only [List.length_nil, Nat.zero_add] at px
  have hpx : x.p.length ≤ 1000000 := by omega
  have hpl : (pathInts x.p).length ≤ 1000000 := by simpa using hpx
  have zw := one_ok (place_at xm) h0
  have ls := small_ok zL
  have CX := Lib.hid (fun W (hW : Below w.heap.size w W) => chosen_any f _ a ka x W (lies_below hl hW) hs.size hma hx hka)
  have SZ := Lib.hid (fun W (hW : Below w.heap.size w W) => tsize_any f _ W (lies_below hl hW) hs)
  rw [size_val h0] at SZ
  have ST := Lib.hid (fun W y (h : Lies W y (.cons th tk .nil)) => tsize_any (.cons th tk .nil) y W h ts)
  rw [size_val t0, show (Fo.cons th tk .nil).size = tk.size + 1 from rfl] at ST
  have SW := Lib.hid (fun W y (h : Lies W y (.cons x.h x.ks .nil)) => tsize_any (.cons x.h x.ks .nil) y W h (small_ok zw))
  rw [size_val zw, show (Fo.cons x.h x.ks .nil).size = x.ks.size + 1 from rfl] at SW
  have AX := Lib.hid (fun W (hW : Below w.heap.size w W) pv (hp : IntsLie W pv (pathInts x.p)) => (at_any f (pathInts x.p) _ pv W (lies_below hl hW) hs hp hpl).mono fun _ _ h => at_ok (at_val h0 xm) (place_at xm) h)
  have CU := Lib.hid (fun W (hW : Below w.heap.size w W) pv (hp : IntsLie W pv (pathInts x.p)) => tcut_any f (pathInts x.p) _ pv W (lies_below hl hW) hp hpl hs)
  rw [pc1] at CU
  have SL := Lib.hid (fun W y (h : Lies W y (changeAt f q (spl g i 1 .nil))) => tsize_any (changeAt f q (spl g i 1 .nil)) y W h ls)
  rw [size_val zL] at SL
  have IB := Lib.hid (fun W u pv aa ca ak ck (h : Lies W u (changeAt f q (spl g i 1 .nil))) (hp : IntsLie W pv (pathInts x.p)) (h1 : AttrsLie W (.slice aa x.h.ats.length ca) x.h.ats) (h2 : Lies W (.slice ak x.ks.len ck) x.ks) => tinsert_any (changeAt f q (spl g i 1 .nil)) (pathInts x.p) x.h x.ks u pv aa ca ak ck W h hp hpl h1 h2 ls (small_ok zw))
  rw [pc4] at IB
  unfold aggOf at IB
  have IN := Lib.hid (fun W (hW : Below w.heap.size w W) pv aa ca ak ck (hp : IntsLie W pv (pathInts x.p)) (h1 : AttrsLie W (.slice aa th.ats.length ca) th.ats) (h2 : Lies W (.slice ak tk.len ck) tk) => tinsert_any f (pathInts x.p) th tk _ pv aa ca ak ck W (lies_below hl hW) hp hpl h1 h2 hs ts)
  rw [pi1] at IN
  unfold aggOf at IN
  have SR := Lib.hid (fun (F : Fo) x y W (h1 : Lies W x F) (h2 : Lies W y F) => same_refl F.size F (Nat.le_refl _) x y W h1 h2)
  have FL := Lib.hid (fun W (hW : Below w.heap.size w W) => lies_below hl hW)
  rw [pi1] at hbe
  rw [hbe] at IN
  have eZ : ((f.len : Int) == 0) = false := by simp; omega
  have hfl : 0 < f.len := by omega
  have n1 : (((changeAt f q (spl g i 1 .nil)).size : Int) != ((f.size : Int) - ((x.ks.size : Int) + 1))) = false := by simp; omega
  have m1 : f.size ≤ 400 := (fo_zero.1 h0).1
  have m2 : tk.size + 1 ≤ 400 := by have := (fo_zero.1 t0).1; simp only [Fo.size] at this; omega
  have m3 : x.ks.size + 1 ≤ f.size := by omega
  clear hl ha hk hf hf2 hx h0 t0 hs ts px hsz hpx hpl hka hma hlen xm pc1 zL sL pc4 pi1 pi2 hg hn ep zw ls hbe
  generalize changeAt f q (spl g i 1 .nil) = L at *
  generalize x.p = xp at *
  generalize x.h = xh at *
  generalize x.ks = xk at *
  go_enter Tryz.func9, Tryz.ntmps9
  go_upto_region 1 with fail
  have kk := World.alloc_heap_new w (.cells #[.int .i64 th.k, .string ⟨th.l.toArray⟩, .slice aa0 th.ats.length ca0, .int .i64 th.n, .int .i64 th.d, .string ⟨th.x.toArray⟩, .slice ak0 tk.len ck0] 43)
  have hb1 : Below w.heap.size w (w.alloc (.cells #[.int .i64 th.k, .string ⟨th.l.toArray⟩, .slice aa0 th.ats.length ca0, .int .i64 th.n, .int .i64 th.d, .string ⟨th.x.toArray⟩, .slice ak0 tk.len ck0] 43)) := (Below.refl _ _).alloc (Nat.le_refl _) _
  have zt0 : w.heap.size < (w.alloc (.cells #[.int .i64 th.k, .string ⟨th.l.toArray⟩, .slice aa0 th.ats.length ca0, .int .i64 th.n, .int .i64 th.d, .string ⟨th.x.toArray⟩, .slice ak0 tk.len ck0] 43)).heap.size := by simp
  generalize w.alloc (.cells #[.int .i64 th.k, .string ⟨th.l.toArray⟩, .slice aa0 th.ats.length ca0, .int .i64 th.n, .int .i64 th.d, .string ⟨th.x.toArray⟩, .slice ak0 tk.len ck0] 43) = X1 at *
  have BX1 : Below w.heap.size w X1 := hb1
  have Kt0 := Lib.hid kk
  clear kk
  have HA := Lib.hid (attrs_below HA.out hb1)
  have HK := Lib.hid (lies_below HK.out hb1)
  obtain ⟨t0, ht⟩ : ∃ t, t = w.heap.size := ⟨_, rfl⟩
  rw [← ht] at Kt0 zt0
  have hpp : (Value.pointer (some ⟨w.heap.size, 0, none⟩)) = .pointer (some ⟨t0, 0, none⟩) := by rw [ht]
  rw [hpp]
  clear hpp ht hb1
  go_wp2_with fail
  refine (FF.out X1 BX1).mono ?_
  rintro e X2 ⟨rfl, hb2⟩
  have BX2 : Below w.heap.size w X2 := BX1.trans (hb2.mono BX1.size)
  have HA := Lib.hid (attrs_below HA.out hb2)
  have HK := Lib.hid (lies_below HK.out hb2)
  have Kt0 := Lib.hid ((hb2.block _ zt0).trans Kt0.out)
  have zt0 := Nat.lt_of_lt_of_le zt0 hb2.size
  clear hb2
  have d0 : X2.cell? ⟨t0, 0, none⟩ = some (.int .i64 th.k) := cell_of_block Kt0.out rfl
  have d1 : X2.cell? ⟨t0, 1, none⟩ = some (.string ⟨th.l.toArray⟩) := cell_of_block Kt0.out rfl
  have d2 : X2.cell? ⟨t0, 2, none⟩ = some (.slice aa0 th.ats.length ca0) := cell_of_block Kt0.out rfl
  have d3 : X2.cell? ⟨t0, 3, none⟩ = some (.int .i64 th.n) := cell_of_block Kt0.out rfl
  have d4 : X2.cell? ⟨t0, 4, none⟩ = some (.int .i64 th.d) := cell_of_block Kt0.out rfl
  have d5 : X2.cell? ⟨t0, 5, none⟩ = some (.string ⟨th.x.toArray⟩) := cell_of_block Kt0.out rfl
  have d6 : X2.cell? ⟨t0, 6, none⟩ = some (.slice ak0 tk.len ck0) := cell_of_block Kt0.out rfl
  have kk := World.alloc_heap_new X2 (.cells #[.int .i64 th.k, .string ⟨th.l.toArray⟩, .slice aa0 th.ats.length ca0, .int .i64 th.n, .int .i64 th.d, .string ⟨th.x.toArray⟩, .slice ak0 tk.len ck0] 43)
  have hb3 : Below X2.heap.size X2 (X2.alloc (.cells #[.int .i64 th.k, .string ⟨th.l.toArray⟩, .slice aa0 th.ats.length ca0, .int .i64 th.n, .int .i64 th.d, .string ⟨th.x.toArray⟩, .slice ak0 tk.len ck0] 43)) := (Below.refl _ _).alloc (Nat.le_refl _) _
  have HA := Lib.hid (attrs_below HA.out hb3)
  have HK := Lib.hid (lies_below HK.out hb3)
  have Kt0 := Lib.hid ((hb3.block _ zt0).trans Kt0.out)
  have zt0 := Nat.lt_of_lt_of_le zt0 hb3.size
  have LT := Lib.hid (lies_one kk HA.out HK.out)
  have BX3 : Below w.heap.size w (X2.alloc (.cells #[.int .i64 th.k, .string ⟨th.l.toArray⟩, .slice aa0 th.ats.length ca0, .int .i64 th.n, .int .i64 th.d, .string ⟨th.x.toArray⟩, .slice ak0 tk.len ck0] 43)) := BX2.trans (hb3.mono BX2.size)
  clear kk hb3
  go_wp2_with fail
  generalize X2.alloc (.cells #[.int .i64 th.k, .string ⟨th.l.toArray⟩, .slice aa0 th.ats.length ca0, .int .i64 th.n, .int .i64 th.d, .string ⟨th.x.toArray⟩, .slice ak0 tk.len ck0] 43) = X3 at *
  clear d0 d1 d2 d3 d4 d5 d6

  refine (FT.out X3 _ LT.out).mono ?_
  rintro e X4 ⟨rfl, hb4⟩
  have BX4 : Below w.heap.size w X4 := BX3.trans (hb4.mono BX3.size)
  have HA := Lib.hid (attrs_below HA.out hb4)
  have HK := Lib.hid (lies_below HK.out hb4)
  have Kt0 := Lib.hid ((hb4.block _ zt0).trans Kt0.out)
  have zt0 := Nat.lt_of_lt_of_le zt0 hb4.size
  clear LT
  clear hb4
  go_wp2_with fail
  refine (CX.out X4 BX4).mono ?_
  rintro e X5 ⟨aP, cP, rfl, hP, hb5⟩
  have BX5 : Below w.heap.size w X5 := BX4.trans (hb5.mono BX4.size)
  have HA := Lib.hid (attrs_below HA.out hb5)
  have HK := Lib.hid (lies_below HK.out hb5)
  have Kt0 := Lib.hid ((hb5.block _ zt0).trans Kt0.out)
  have zt0 := Nat.lt_of_lt_of_le zt0 hb5.size
  have HP := Lib.hid (intsF_lies hP)
  clear hP CX
  clear hb5
  go_wp2_with fail
  refine (SZ.out X5 BX5).mono ?_
  rintro e X6 ⟨rfl, hb6⟩
  have BX6 : Below w.heap.size w X6 := BX5.trans (hb6.mono BX5.size)
  have HA := Lib.hid (attrs_below HA.out hb6)
  have HK := Lib.hid (lies_below HK.out hb6)
  have HP := Lib.hid (ints_below HP.out hb6)
  have Kt0 := Lib.hid ((hb6.block _ zt0).trans Kt0.out)
  have zt0 := Nat.lt_of_lt_of_le zt0 hb6.size
  clear hb6
  have d0 : X6.cell? ⟨t0, 0, none⟩ = some (.int .i64 th.k) := cell_of_block Kt0.out rfl
  have d1 : X6.cell? ⟨t0, 1, none⟩ = some (.string ⟨th.l.toArray⟩) := cell_of_block Kt0.out rfl
  have d2 : X6.cell? ⟨t0, 2, none⟩ = some (.slice aa0 th.ats.length ca0) := cell_of_block Kt0.out rfl
  have d3 : X6.cell? ⟨t0, 3, none⟩ = some (.int .i64 th.n) := cell_of_block Kt0.out rfl
  have d4 : X6.cell? ⟨t0, 4, none⟩ = some (.int .i64 th.d) := cell_of_block Kt0.out rfl
  have d5 : X6.cell? ⟨t0, 5, none⟩ = some (.string ⟨th.x.toArray⟩) := cell_of_block Kt0.out rfl
  have d6 : X6.cell? ⟨t0, 6, none⟩ = some (.slice ak0 tk.len ck0) := cell_of_block Kt0.out rfl
  have kk := World.alloc_heap_new X6 (.cells #[.int .i64 th.k, .string ⟨th.l.toArray⟩, .slice aa0 th.ats.length ca0, .int .i64 th.n, .int .i64 th.d, .string ⟨th.x.toArray⟩, .slice ak0 tk.len ck0] 43)
  have hb7 : Below X6.heap.size X6 (X6.alloc (.cells #[.int .i64 th.k, .string ⟨th.l.toArray⟩, .slice aa0 th.ats.length ca0, .int .i64 th.n, .int .i64 th.d, .string ⟨th.x.toArray⟩, .slice ak0 tk.len ck0] 43)) := (Below.refl _ _).alloc (Nat.le_refl _) _
  have HA := Lib.hid (attrs_below HA.out hb7)
  have HK := Lib.hid (lies_below HK.out hb7)
  have HP := Lib.hid (ints_below HP.out hb7)
  have Kt0 := Lib.hid ((hb7.block _ zt0).trans Kt0.out)
  have zt0 := Nat.lt_of_lt_of_le zt0 hb7.size
  have LT := Lib.hid (lies_one kk HA.out HK.out)
  have BX7 : Below w.heap.size w (X6.alloc (.cells #[.int .i64 th.k, .string ⟨th.l.toArray⟩, .slice aa0 th.ats.length ca0, .int .i64 th.n, .int .i64 th.d, .string ⟨th.x.toArray⟩, .slice ak0 tk.len ck0] 43)) := BX6.trans (hb7.mono BX6.size)
  clear kk hb7
  go_wp2_with fail
  generalize X6.alloc (.cells #[.int .i64 th.k, .string ⟨th.l.toArray⟩, .slice aa0 th.ats.length ca0, .int .i64 th.n, .int .i64 th.d, .string ⟨th.x.toArray⟩, .slice ak0 tk.len ck0] 43) = X7 at *
  clear d0 d1 d2 d3 d4 d5 d6

  refine (ST.out X7 _ LT.out).mono ?_
  rintro e X8 ⟨rfl, hb8⟩
  have BX8 : Below w.heap.size w X8 := BX7.trans (hb8.mono BX7.size)
  have HA := Lib.hid (attrs_below HA.out hb8)
  have HK := Lib.hid (lies_below HK.out hb8)
  have HP := Lib.hid (ints_below HP.out hb8)
  have Kt0 := Lib.hid ((hb8.block _ zt0).trans Kt0.out)
  have zt0 := Nat.lt_of_lt_of_le zt0 hb8.size
  clear LT
  clear hb8
  go_wp2_with fail
  refine (AX.out X8 BX8 _ HP.out).mono ?_
  rintro e X9 ⟨aa1, ca1, ak1, ck1, rfl, hA, hK, hb9⟩
  have BX9 : Below w.heap.size w X9 := BX8.trans (hb9.mono BX8.size)
  have HA := Lib.hid (attrs_below HA.out hb9)
  have HK := Lib.hid (lies_below HK.out hb9)
  have HP := Lib.hid (ints_below HP.out hb9)
  have Kt0 := Lib.hid ((hb9.block _ zt0).trans Kt0.out)
  have zt0 := Nat.lt_of_lt_of_le zt0 hb9.size
  unfold aggOf
  have HA1 := Lib.hid hA
  have HK1 := Lib.hid hK
  clear hA hK AX
  clear hb9
  go_upto_region 7 with fail
  have kk := World.alloc_heap_new X9 (.cells #[.int .i64 xh.k, .string ⟨xh.l.toArray⟩, .slice aa1 xh.ats.length ca1, .int .i64 xh.n, .int .i64 xh.d, .string ⟨xh.x.toArray⟩, .slice ak1 xk.len ck1] 43)
  have hb10 : Below X9.heap.size X9 (X9.alloc (.cells #[.int .i64 xh.k, .string ⟨xh.l.toArray⟩, .slice aa1 xh.ats.length ca1, .int .i64 xh.n, .int .i64 xh.d, .string ⟨xh.x.toArray⟩, .slice ak1 xk.len ck1] 43)) := (Below.refl _ _).alloc (Nat.le_refl _) _
  have zt1 : X9.heap.size < (X9.alloc (.cells #[.int .i64 xh.k, .string ⟨xh.l.toArray⟩, .slice aa1 xh.ats.length ca1, .int .i64 xh.n, .int .i64 xh.d, .string ⟨xh.x.toArray⟩, .slice ak1 xk.len ck1] 43)).heap.size := by simp
  generalize X9.alloc (.cells #[.int .i64 xh.k, .string ⟨xh.l.toArray⟩, .slice aa1 xh.ats.length ca1, .int .i64 xh.n, .int .i64 xh.d, .string ⟨xh.x.toArray⟩, .slice ak1 xk.len ck1] 43) = X10 at *
  have BX10 : Below w.heap.size w X10 := BX9.trans (hb10.mono BX9.size)
  have Kt1 := Lib.hid kk
  clear kk
  have HA := Lib.hid (attrs_below HA.out hb10)
  have HK := Lib.hid (lies_below HK.out hb10)
  have HP := Lib.hid (ints_below HP.out hb10)
  have HA1 := Lib.hid (attrs_below HA1.out hb10)
  have HK1 := Lib.hid (lies_below HK1.out hb10)
  have Kt0 := Lib.hid ((hb10.block _ zt0).trans Kt0.out)
  have zt0 := Nat.lt_of_lt_of_le zt0 hb10.size
  obtain ⟨t1, ht⟩ : ∃ t, t = X9.heap.size := ⟨_, rfl⟩
  rw [← ht] at Kt1 zt1
  rw [← ht]
  clear ht hb10
  have d0 : X10.cell? ⟨t1, 0, none⟩ = some (.int .i64 xh.k) := cell_of_block Kt1.out rfl
  have d1 : X10.cell? ⟨t1, 1, none⟩ = some (.string ⟨xh.l.toArray⟩) := cell_of_block Kt1.out rfl
  have d2 : X10.cell? ⟨t1, 2, none⟩ = some (.slice aa1 xh.ats.length ca1) := cell_of_block Kt1.out rfl
  have d3 : X10.cell? ⟨t1, 3, none⟩ = some (.int .i64 xh.n) := cell_of_block Kt1.out rfl
  have d4 : X10.cell? ⟨t1, 4, none⟩ = some (.int .i64 xh.d) := cell_of_block Kt1.out rfl
  have d5 : X10.cell? ⟨t1, 5, none⟩ = some (.string ⟨xh.x.toArray⟩) := cell_of_block Kt1.out rfl
  have d6 : X10.cell? ⟨t1, 6, none⟩ = some (.slice ak1 xk.len ck1) := cell_of_block Kt1.out rfl
  have kk := World.alloc_heap_new X10 (.cells #[.int .i64 xh.k, .string ⟨xh.l.toArray⟩, .slice aa1 xh.ats.length ca1, .int .i64 xh.n, .int .i64 xh.d, .string ⟨xh.x.toArray⟩, .slice ak1 xk.len ck1] 43)
  have hb11 : Below X10.heap.size X10 (X10.alloc (.cells #[.int .i64 xh.k, .string ⟨xh.l.toArray⟩, .slice aa1 xh.ats.length ca1, .int .i64 xh.n, .int .i64 xh.d, .string ⟨xh.x.toArray⟩, .slice ak1 xk.len ck1] 43)) := (Below.refl _ _).alloc (Nat.le_refl _) _
  have HA := Lib.hid (attrs_below HA.out hb11)
  have HK := Lib.hid (lies_below HK.out hb11)
  have HP := Lib.hid (ints_below HP.out hb11)
  have HA1 := Lib.hid (attrs_below HA1.out hb11)
  have HK1 := Lib.hid (lies_below HK1.out hb11)
  have Kt0 := Lib.hid ((hb11.block _ zt0).trans Kt0.out)
  have zt0 := Nat.lt_of_lt_of_le zt0 hb11.size
  have Kt1 := Lib.hid ((hb11.block _ zt1).trans Kt1.out)
  have zt1 := Nat.lt_of_lt_of_le zt1 hb11.size
  have LT := Lib.hid (lies_one kk HA1.out HK1.out)
  have BX11 : Below w.heap.size w (X10.alloc (.cells #[.int .i64 xh.k, .string ⟨xh.l.toArray⟩, .slice aa1 xh.ats.length ca1, .int .i64 xh.n, .int .i64 xh.d, .string ⟨xh.x.toArray⟩, .slice ak1 xk.len ck1] 43)) := BX10.trans (hb11.mono BX10.size)
  clear kk hb11
  go_wp2_with fail
  generalize X10.alloc (.cells #[.int .i64 xh.k, .string ⟨xh.l.toArray⟩, .slice aa1 xh.ats.length ca1, .int .i64 xh.n, .int .i64 xh.d, .string ⟨xh.x.toArray⟩, .slice ak1 xk.len ck1] 43) = X11 at *
  clear d0 d1 d2 d3 d4 d5 d6

  refine (SW.out X11 _ LT.out).mono ?_
  rintro e X12 ⟨rfl, hb12⟩
  have BX12 : Below w.heap.size w X12 := BX11.trans (hb12.mono BX11.size)
  have HA := Lib.hid (attrs_below HA.out hb12)
  have HK := Lib.hid (lies_below HK.out hb12)
  have HP := Lib.hid (ints_below HP.out hb12)
  have HA1 := Lib.hid (attrs_below HA1.out hb12)
  have HK1 := Lib.hid (lies_below HK1.out hb12)
  have Kt0 := Lib.hid ((hb12.block _ zt0).trans Kt0.out)
  have zt0 := Nat.lt_of_lt_of_le zt0 hb12.size
  have Kt1 := Lib.hid ((hb12.block _ zt1).trans Kt1.out)
  have zt1 := Nat.lt_of_lt_of_le zt1 hb12.size
  clear LT
  clear hb12
  go_wp2_with fail
  refine (CU.out X12 BX12 _ HP.out).mono ?_
  rintro e X13 ⟨v4, rfl, hG, hb13⟩
  have BX13 : Below w.heap.size w X13 := BX12.trans (hb13.mono BX12.size)
  have HA := Lib.hid (attrs_below HA.out hb13)
  have HK := Lib.hid (lies_below HK.out hb13)
  have HP := Lib.hid (ints_below HP.out hb13)
  have HA1 := Lib.hid (attrs_below HA1.out hb13)
  have HK1 := Lib.hid (lies_below HK1.out hb13)
  have Kt0 := Lib.hid ((hb13.block _ zt0).trans Kt0.out)
  have zt0 := Nat.lt_of_lt_of_le zt0 hb13.size
  have Kt1 := Lib.hid ((hb13.block _ zt1).trans Kt1.out)
  have zt1 := Nat.lt_of_lt_of_le zt1 hb13.size
  have HL := Lib.hid (liesF_lies hG)
  obtain ⟨a4, c4, rfl⟩ := liesF_form hG
  clear hG CU
  clear hb13
  go_wp2_with fail
  refine (SL.out X13 _ HL.out).mono ?_
  rintro e X14 ⟨rfl, hb14⟩
  have BX14 : Below w.heap.size w X14 := BX13.trans (hb14.mono BX13.size)
  have HA := Lib.hid (attrs_below HA.out hb14)
  have HK := Lib.hid (lies_below HK.out hb14)
  have HP := Lib.hid (ints_below HP.out hb14)
  have HA1 := Lib.hid (attrs_below HA1.out hb14)
  have HK1 := Lib.hid (lies_below HK1.out hb14)
  have HL := Lib.hid (lies_below HL.out hb14)
  have Kt0 := Lib.hid ((hb14.block _ zt0).trans Kt0.out)
  have zt0 := Nat.lt_of_lt_of_le zt0 hb14.size
  have Kt1 := Lib.hid ((hb14.block _ zt1).trans Kt1.out)
  have zt1 := Nat.lt_of_lt_of_le zt1 hb14.size
  clear hb14
  have d0 : X14.cell? ⟨t1, 0, none⟩ = some (.int .i64 xh.k) := cell_of_block Kt1.out rfl
  have d1 : X14.cell? ⟨t1, 1, none⟩ = some (.string ⟨xh.l.toArray⟩) := cell_of_block Kt1.out rfl
  have d2 : X14.cell? ⟨t1, 2, none⟩ = some (.slice aa1 xh.ats.length ca1) := cell_of_block Kt1.out rfl
  have d3 : X14.cell? ⟨t1, 3, none⟩ = some (.int .i64 xh.n) := cell_of_block Kt1.out rfl
  have d4 : X14.cell? ⟨t1, 4, none⟩ = some (.int .i64 xh.d) := cell_of_block Kt1.out rfl
  have d5 : X14.cell? ⟨t1, 5, none⟩ = some (.string ⟨xh.x.toArray⟩) := cell_of_block Kt1.out rfl
  have d6 : X14.cell? ⟨t1, 6, none⟩ = some (.slice ak1 xk.len ck1) := cell_of_block Kt1.out rfl
  go_wp2_with fail
  refine (IB.out X14 _ _ _ _ _ _ HL.out HP.out HA1.out HK1.out).mono ?_
  rintro e X15 ⟨v5, rfl, hH, hb15⟩
  have BX15 : Below w.heap.size w X15 := BX14.trans (hb15.mono BX14.size)
  have HA := Lib.hid (attrs_below HA.out hb15)
  have HK := Lib.hid (lies_below HK.out hb15)
  have HP := Lib.hid (ints_below HP.out hb15)
  have HA1 := Lib.hid (attrs_below HA1.out hb15)
  have HK1 := Lib.hid (lies_below HK1.out hb15)
  have HL := Lib.hid (lies_below HL.out hb15)
  have Kt0 := Lib.hid ((hb15.block _ zt0).trans Kt0.out)
  have zt0 := Nat.lt_of_lt_of_le zt0 hb15.size
  have Kt1 := Lib.hid ((hb15.block _ zt1).trans Kt1.out)
  have zt1 := Nat.lt_of_lt_of_le zt1 hb15.size
  have HH := Lib.hid (liesF_lies hH)
  obtain ⟨a5, c5, rfl⟩ := liesF_form hH
  clear hH IB
  clear hb15
  clear d0 d1 d2 d3 d4 d5 d6
  clear Kt1 zt1
  clear HA1 HK1
  go_wp2_with fail
  refine (SR.out _ _ _ X15 HH.out (FL.out X15 BX15)).mono ?_
  rintro e X16 ⟨rfl, hb16⟩
  have BX16 : Below w.heap.size w X16 := BX15.trans (hb16.mono BX15.size)
  have HA := Lib.hid (attrs_below HA.out hb16)
  have HK := Lib.hid (lies_below HK.out hb16)
  have HP := Lib.hid (ints_below HP.out hb16)
  have HL := Lib.hid (lies_below HL.out hb16)
  have HH := Lib.hid (lies_below HH.out hb16)
  have Kt0 := Lib.hid ((hb16.block _ zt0).trans Kt0.out)
  have zt0 := Nat.lt_of_lt_of_le zt0 hb16.size
  clear hb16
  clear HH
  have d0 : X16.cell? ⟨t0, 0, none⟩ = some (.int .i64 th.k) := cell_of_block Kt0.out rfl
  have d1 : X16.cell? ⟨t0, 1, none⟩ = some (.string ⟨th.l.toArray⟩) := cell_of_block Kt0.out rfl
  have d2 : X16.cell? ⟨t0, 2, none⟩ = some (.slice aa0 th.ats.length ca0) := cell_of_block Kt0.out rfl
  have d3 : X16.cell? ⟨t0, 3, none⟩ = some (.int .i64 th.n) := cell_of_block Kt0.out rfl
  have d4 : X16.cell? ⟨t0, 4, none⟩ = some (.int .i64 th.d) := cell_of_block Kt0.out rfl
  have d5 : X16.cell? ⟨t0, 5, none⟩ = some (.string ⟨th.x.toArray⟩) := cell_of_block Kt0.out rfl
  have d6 : X16.cell? ⟨t0, 6, none⟩ = some (.slice ak0 tk.len ck0) := cell_of_block Kt0.out rfl
  go_wp2_with fail
  refine (IN.out X16 BX16 _ _ _ _ _ HP.out HA.out HK.out).mono ?_
  rintro e X17 ⟨v6, rfl, hG, hb17⟩
  have BX17 : Below w.heap.size w X17 := BX16.trans (hb17.mono BX16.size)
  have HA := Lib.hid (attrs_below HA.out hb17)
  have HK := Lib.hid (lies_below HK.out hb17)
  have HP := Lib.hid (ints_below HP.out hb17)
  have HL := Lib.hid (lies_below HL.out hb17)
  have Kt0 := Lib.hid ((hb17.block _ zt0).trans Kt0.out)
  have zt0 := Nat.lt_of_lt_of_le zt0 hb17.size
  have HS := Lib.hid (liesF_lies hG)
  obtain ⟨a6, c6, rfl⟩ := liesF_form hG
  clear hG IN
  clear hb17
  clear d0 d1 d2 d3 d4 d5 d6
  go_wp2_with fail
  refine (GR.out _).mono ?_
  rintro e X18 ⟨rfl, hb18⟩
  have BX18 : Below w.heap.size w X18 := BX17.trans (hb18.mono BX17.size)
  have HA := Lib.hid (attrs_below HA.out hb18)
  have HK := Lib.hid (lies_below HK.out hb18)
  have HP := Lib.hid (ints_below HP.out hb18)
  have HL := Lib.hid (lies_below HL.out hb18)
  have Kt0 := Lib.hid ((hb18.block _ zt0).trans Kt0.out)
  have zt0 := Nat.lt_of_lt_of_le zt0 hb18.size
  clear hb18
  go_wp2_with fail
  go_ret
  exact ⟨rfl, BX18⟩

set_option maxRecDepth 100000 in
set_option maxHeartbeats 8000000 in
theorem tcuts_big (f : Fo) (v : Value) (th : Hd) (tk : Fo) (va vk : Value) (a : Nat) (w : World) (hl : Lies w v f) (ha : AttrsLie w va th.ats) (hk : Lies w vk tk) (ka : Nat) (x : Vis) (hf : fitB f = true) (hf2 : fitB (.cons th tk .nil) = true) (hlen : f.len ≠ 0) (hma : a ≤ 65535) (hx : (seqAt [] 0 f)[ka]? = some x) (hka : Int.tmod (a : Int) (f.size : Int) = (ka : Int))
    (hbo : (insV f (pathInts x.p) (.cons th tk .nil)).2 = 0) (hcc : (bndErr (f.app (cutV f (pathInts x.p)).1)) = 4) :
    Calls Tryz.prog 9 #[v, treeA th va vk, .int .u16 (a : Int)] w fun e w' => e = .returned (.bool true) ∧ Below w.heap.size w w' := by
  have GR := Lib.hid (fun w => grown_any w)
  have FF := Lib.hid (fun W (hW : Below w.heap.size w W) => fit_any f v W (lies_below hl hW))
  have FT := Lib.hid (fun W y (h : Lies W y (.cons th tk .nil)) => fit_any (.cons th tk .nil) y W h)
  have HA := Lib.hid ha
  have HK := Lib.hid hk
  have BX0 := Below.refl w.heap.size w
  obtain ⟨av, cv, rfl⟩ := lies_form hl
  obtain ⟨aa0, ca0, rfl⟩ := attrs_form ha
  obtain ⟨ak0, ck0, rfl⟩ := lies_form hk
  unfold treeA
  have h0 := (fit_parts hf).2
  have t0 := (fit_parts hf2).2
  have hs := small_ok h0
  have ts := small_ok t0
  rw [hf] at FF
  rw [hf2] at FT
  obtain ⟨q, i, g, ep, hg, hn⟩ := vis_split (List.mem_of_getElem? hx)
  have xm := List.mem_of_getElem? hx
  obtain ⟨⟨pc1, zL, sL, pc4⟩, pi1, pi2⟩ := cut_vals h0 t0 hg hn
  rw [← ep] at pc1 pc4 pi1 pi2
  have px := path_len xm
  have hsz := hs.size
  simp only [List.length_nil, Nat.zero_add] at px
  have hpx : x.p.length ≤ 1000000 := by omega
  have hpl : (pathInts x.p).length ≤ 1000000 := by simpa using hpx
  have zw := one_ok (place_at xm) h0
  have ls := small_ok zL
  have CX := Lib.hid (fun W (hW : Below w.heap.size w W) => chosen_any f _ a ka x W (lies_below hl hW) hs.size hma hx hka)
  have SZ := Lib.hid (fun W (hW : Below w.heap.size w W) => tsize_any f _ W (lies_below hl hW) hs)
  rw [size_val h0] at SZ
  have ST := Lib.hid (fun W y (h : Lies W y (.cons th tk .nil)) => tsize_any (.cons th tk .nil) y W h ts)
  rw [size_val t0, show (Fo.cons th tk .nil).size = tk.size + 1 from rfl] at ST
  have SW := Lib.hid (fun W y (h : Lies W y (.cons x.h x.ks .nil)) => tsize_any (.cons x.h x.ks .nil) y W h (small_ok zw))
  rw [size_val zw, show (Fo.cons x.h x.ks .nil).size = x.ks.size + 1 from rfl] at SW
  have AX := Lib.hid (fun W (hW : Below w.heap.size w W) pv (hp : IntsLie W pv (pathInts x.p)) => (at_any f (pathInts x.p) _ pv W (lies_below hl hW) hs hp hpl).mono fun _ _ h => at_ok (at_val h0 xm) (place_at xm) h)
  have CU := Lib.hid (fun W (hW : Below w.heap.size w W) pv (hp : IntsLie W pv (pathInts x.p)) => tcut_any f (pathInts x.p) _ pv W (lies_below hl hW) hp hpl hs)
  rw [pc1] at CU
  have SL := Lib.hid (fun W y (h : Lies W y (changeAt f q (spl g i 1 .nil))) => tsize_any (changeAt f q (spl g i 1 .nil)) y W h ls)
  rw [size_val zL] at SL
  have IB := Lib.hid (fun W u pv aa ca ak ck (h : Lies W u (changeAt f q (spl g i 1 .nil))) (hp : IntsLie W pv (pathInts x.p)) (h1 : AttrsLie W (.slice aa x.h.ats.length ca) x.h.ats) (h2 : Lies W (.slice ak x.ks.len ck) x.ks) => tinsert_any (changeAt f q (spl g i 1 .nil)) (pathInts x.p) x.h x.ks u pv aa ca ak ck W h hp hpl h1 h2 ls (small_ok zw))
  rw [pc4] at IB
  unfold aggOf at IB
  have IN := Lib.hid (fun W (hW : Below w.heap.size w W) pv aa ca ak ck (hp : IntsLie W pv (pathInts x.p)) (h1 : AttrsLie W (.slice aa th.ats.length ca) th.ats) (h2 : Lies W (.slice ak tk.len ck) tk) => tinsert_any f (pathInts x.p) th tk _ pv aa ca ak ck W (lies_below hl hW) hp hpl h1 h2 hs ts)
  rw [pi1] at IN
  unfold aggOf at IN
  have SR := Lib.hid (fun (F : Fo) x y W (h1 : Lies W x F) (h2 : Lies W y F) => same_refl F.size F (Nat.le_refl _) x y W h1 h2)
  have FL := Lib.hid (fun W (hW : Below w.heap.size w W) => lies_below hl hW)
  have hbn : bndErr (changeAt f q (spl g i 0 (.cons th tk .nil))) = 0 := by
    rw [pi1] at hbo
    rcases in_bnd (changeAt f q (spl g i 0 (.cons th tk .nil))) with ⟨h, -⟩ | h | h
    · exact h
    · rw [h] at hbo; cases hbo
    · rw [h] at hbo; cases hbo
  rw [pc1] at hcc
  obtain ⟨zS, pg, pcb, sS⟩ := pi2 hbn
  have ss := small_ok zS
  rw [show inBnd (changeAt f q (spl g i 0 (.cons th tk .nil))) = (changeAt f q (spl g i 0 (.cons th tk .nil)), 0) by unfold inBnd; rw [if_pos hbn]] at IN
  have SS := Lib.hid (fun W y (h : Lies W y (changeAt f q (spl g i 0 (.cons th tk .nil)))) => tsize_any (changeAt f q (spl g i 0 (.cons th tk .nil))) y W h ss)
  rw [size_val zS, sS] at SS
  have hne : pathInts x.p ≠ [] := by simpa using path_ne xm
  have ap : atErr (changeAt f q (spl g i 0 (.cons th tk .nil))) (pathInts x.p) = 0 := by unfold atErr placeErr; rw [if_neg hne, pg, zS]; rfl
  have AG := Lib.hid (fun W u pv (h : Lies W u (changeAt f q (spl g i 0 (.cons th tk .nil)))) (hp : IntsLie W pv (pathInts x.p)) => (at_any (changeAt f q (spl g i 0 (.cons th tk .nil))) (pathInts x.p) u pv W h ss hp hpl).mono fun _ _ h => at_ok ap pg h)
  have CB := Lib.hid (fun W u pv (h : Lies W u (changeAt f q (spl g i 0 (.cons th tk .nil)))) (hp : IntsLie W pv (pathInts x.p)) => tcut_any (changeAt f q (spl g i 0 (.cons th tk .nil))) (pathInts x.p) u pv W h hp hpl ss)
  rw [pcb] at CB
  have CC := Lib.hid (fun W (hW : Below w.heap.size w W) u (h : Lies W u (changeAt f q (spl g i 1 .nil))) => tconcat_any f (changeAt f q (spl g i 1 .nil)) _ u W (lies_below hl hW) h hs ls)
  rw [app_ok h0 zL] at CC
  rw [show inBnd (f.app (changeAt f q (spl g i 1 .nil))) = (.nil, 4) by unfold inBnd; rw [if_neg (by rw [hcc]; decide), hcc]] at CC
  have eZ : ((f.len : Int) == 0) = false := by simp; omega
  have hfl : 0 < f.len := by omega
  have n1 : (((changeAt f q (spl g i 1 .nil)).size : Int) != ((f.size : Int) - ((x.ks.size : Int) + 1))) = false := by simp; omega
  have m1 : f.size ≤ 400 := (fo_zero.1 h0).1
  have m2 : tk.size + 1 ≤ 400 := by have := (fo_zero.1 t0).1; simp only [Fo.size] at this; omega
  have m3 : x.ks.size + 1 ≤ f.size := by omega
  clear hl ha hk hf hf2 hx h0 t0 hs ts px hsz hpx hpl hka hma hlen xm pc1 zL sL pc4 pi1 pi2 hg hn ep zw ls hbo hbn zS pg pcb sS ss hne ap hcc
  generalize changeAt f q (spl g i 1 .nil) = L at *
  generalize changeAt f q (spl g i 0 (.cons th tk .nil)) = S at *
  generalize x.p = xp at *
  generalize x.h = xh at *
  generalize x.ks = xk at *
  go_enter Tryz.func9, Tryz.ntmps9
  go_upto_region 1 with fail
  have kk := World.alloc_heap_new w (.cells #[.int .i64 th.k, .string ⟨th.l.toArray⟩, .slice aa0 th.ats.length ca0, .int .i64 th.n, .int .i64 th.d, .string ⟨th.x.toArray⟩, .slice ak0 tk.len ck0] 43)
  have hb1 : Below w.heap.size w (w.alloc (.cells #[.int .i64 th.k, .string ⟨th.l.toArray⟩, .slice aa0 th.ats.length ca0, .int .i64 th.n, .int .i64 th.d, .string ⟨th.x.toArray⟩, .slice ak0 tk.len ck0] 43)) := (Below.refl _ _).alloc (Nat.le_refl _) _
  have zt0 : w.heap.size < (w.alloc (.cells #[.int .i64 th.k, .string ⟨th.l.toArray⟩, .slice aa0 th.ats.length ca0, .int .i64 th.n, .int .i64 th.d, .string ⟨th.x.toArray⟩, .slice ak0 tk.len ck0] 43)).heap.size := by simp
  generalize w.alloc (.cells #[.int .i64 th.k, .string ⟨th.l.toArray⟩, .slice aa0 th.ats.length ca0, .int .i64 th.n, .int .i64 th.d, .string ⟨th.x.toArray⟩, .slice ak0 tk.len ck0] 43) = X1 at *
  have BX1 : Below w.heap.size w X1 := hb1
  have Kt0 := Lib.hid kk
  clear kk
  have HA := Lib.hid (attrs_below HA.out hb1)
  have HK := Lib.hid (lies_below HK.out hb1)
  obtain ⟨t0, ht⟩ : ∃ t, t = w.heap.size := ⟨_, rfl⟩
  rw [← ht] at Kt0 zt0
  have hpp : (Value.pointer (some ⟨w.heap.size, 0, none⟩)) = .pointer (some ⟨t0, 0, none⟩) := by rw [ht]
  rw [hpp]
  clear hpp ht hb1
  go_wp2_with fail
  refine (FF.out X1 BX1).mono ?_
  rintro e X2 ⟨rfl, hb2⟩
  have BX2 : Below w.heap.size w X2 := BX1.trans (hb2.mono BX1.size)
  have HA := Lib.hid (attrs_below HA.out hb2)
  have HK := Lib.hid (lies_below HK.out hb2)
  have Kt0 := Lib.hid ((hb2.block _ zt0).trans Kt0.out)
  have zt0 := Nat.lt_of_lt_of_le zt0 hb2.size
  clear hb2
  have d0 : X2.cell? ⟨t0, 0, none⟩ = some (.int .i64 th.k) := cell_of_block Kt0.out rfl
  have d1 : X2.cell? ⟨t0, 1, none⟩ = some (.string ⟨th.l.toArray⟩) := cell_of_block Kt0.out rfl
  have d2 : X2.cell? ⟨t0, 2, none⟩ = some (.slice aa0 th.ats.length ca0) := cell_of_block Kt0.out rfl
  have d3 : X2.cell? ⟨t0, 3, none⟩ = some (.int .i64 th.n) := cell_of_block Kt0.out rfl
  have d4 : X2.cell? ⟨t0, 4, none⟩ = some (.int .i64 th.d) := cell_of_block Kt0.out rfl
  have d5 : X2.cell? ⟨t0, 5, none⟩ = some (.string ⟨th.x.toArray⟩) := cell_of_block Kt0.out rfl
  have d6 : X2.cell? ⟨t0, 6, none⟩ = some (.slice ak0 tk.len ck0) := cell_of_block Kt0.out rfl
  have kk := World.alloc_heap_new X2 (.cells #[.int .i64 th.k, .string ⟨th.l.toArray⟩, .slice aa0 th.ats.length ca0, .int .i64 th.n, .int .i64 th.d, .string ⟨th.x.toArray⟩, .slice ak0 tk.len ck0] 43)
  have hb3 : Below X2.heap.size X2 (X2.alloc (.cells #[.int .i64 th.k, .string ⟨th.l.toArray⟩, .slice aa0 th.ats.length ca0, .int .i64 th.n, .int .i64 th.d, .string ⟨th.x.toArray⟩, .slice ak0 tk.len ck0] 43)) := (Below.refl _ _).alloc (Nat.le_refl _) _
  have HA := Lib.hid (attrs_below HA.out hb3)
  have HK := Lib.hid (lies_below HK.out hb3)
  have Kt0 := Lib.hid ((hb3.block _ zt0).trans Kt0.out)
  have zt0 := Nat.lt_of_lt_of_le zt0 hb3.size
  have LT := Lib.hid (lies_one kk HA.out HK.out)
  have BX3 : Below w.heap.size w (X2.alloc (.cells #[.int .i64 th.k, .string ⟨th.l.toArray⟩, .slice aa0 th.ats.length ca0, .int .i64 th.n, .int .i64 th.d, .string ⟨th.x.toArray⟩, .slice ak0 tk.len ck0] 43)) := BX2.trans (hb3.mono BX2.size)
  clear kk hb3
  go_wp2_with fail
  generalize X2.alloc (.cells #[.int .i64 th.k, .string ⟨th.l.toArray⟩, .slice aa0 th.ats.length ca0, .int .i64 th.n, .int .i64 th.d, .string ⟨th.x.toArray⟩, .slice ak0 tk.len ck0] 43) = X3 at *
  clear d0 d1 d2 d3 d4 d5 d6

  refine (FT.out X3 _ LT.out).mono ?_
  rintro e X4 ⟨rfl, hb4⟩
  have BX4 : Below w.heap.size w X4 := BX3.trans (hb4.mono BX3.size)
  have HA := Lib.hid (attrs_below HA.out hb4)
  have HK := Lib.hid (lies_below HK.out hb4)
  have Kt0 := Lib.hid ((hb4.block _ zt0).trans Kt0.out)
  have zt0 := Nat.lt_of_lt_of_le zt0 hb4.size
  clear LT
  clear hb4
  go_wp2_with fail
  refine (CX.out X4 BX4).mono ?_
  rintro e X5 ⟨aP, cP, rfl, hP, hb5⟩
  have BX5 : Below w.heap.size w X5 := BX4.trans (hb5.mono BX4.size)
  have HA := Lib.hid (attrs_below HA.out hb5)
  have HK := Lib.hid (lies_below HK.out hb5)
  have Kt0 := Lib.hid ((hb5.block _ zt0).trans Kt0.out)
  have zt0 := Nat.lt_of_lt_of_le zt0 hb5.size
  have HP := Lib.hid (intsF_lies hP)
  clear hP CX
  clear hb5
  go_wp2_with fail
  refine (SZ.out X5 BX5).mono ?_
  rintro e X6 ⟨rfl, hb6⟩
  have BX6 : Below w.heap.size w X6 := BX5.trans (hb6.mono BX5.size)
  have HA := Lib.hid (attrs_below HA.out hb6)
  have HK := Lib.hid (lies_below HK.out hb6)
  have HP := Lib.hid (ints_below HP.out hb6)
  have Kt0 := Lib.hid ((hb6.block _ zt0).trans Kt0.out)
  have zt0 := Nat.lt_of_lt_of_le zt0 hb6.size
  clear hb6
  have d0 : X6.cell? ⟨t0, 0, none⟩ = some (.int .i64 th.k) := cell_of_block Kt0.out rfl
  have d1 : X6.cell? ⟨t0, 1, none⟩ = some (.string ⟨th.l.toArray⟩) := cell_of_block Kt0.out rfl
  have d2 : X6.cell? ⟨t0, 2, none⟩ = some (.slice aa0 th.ats.length ca0) := cell_of_block Kt0.out rfl
  have d3 : X6.cell? ⟨t0, 3, none⟩ = some (.int .i64 th.n) := cell_of_block Kt0.out rfl
  have d4 : X6.cell? ⟨t0, 4, none⟩ = some (.int .i64 th.d) := cell_of_block Kt0.out rfl
  have d5 : X6.cell? ⟨t0, 5, none⟩ = some (.string ⟨th.x.toArray⟩) := cell_of_block Kt0.out rfl
  have d6 : X6.cell? ⟨t0, 6, none⟩ = some (.slice ak0 tk.len ck0) := cell_of_block Kt0.out rfl
  have kk := World.alloc_heap_new X6 (.cells #[.int .i64 th.k, .string ⟨th.l.toArray⟩, .slice aa0 th.ats.length ca0, .int .i64 th.n, .int .i64 th.d, .string ⟨th.x.toArray⟩, .slice ak0 tk.len ck0] 43)
  have hb7 : Below X6.heap.size X6 (X6.alloc (.cells #[.int .i64 th.k, .string ⟨th.l.toArray⟩, .slice aa0 th.ats.length ca0, .int .i64 th.n, .int .i64 th.d, .string ⟨th.x.toArray⟩, .slice ak0 tk.len ck0] 43)) := (Below.refl _ _).alloc (Nat.le_refl _) _
  have HA := Lib.hid (attrs_below HA.out hb7)
  have HK := Lib.hid (lies_below HK.out hb7)
  have HP := Lib.hid (ints_below HP.out hb7)
  have Kt0 := Lib.hid ((hb7.block _ zt0).trans Kt0.out)
  have zt0 := Nat.lt_of_lt_of_le zt0 hb7.size
  have LT := Lib.hid (lies_one kk HA.out HK.out)
  have BX7 : Below w.heap.size w (X6.alloc (.cells #[.int .i64 th.k, .string ⟨th.l.toArray⟩, .slice aa0 th.ats.length ca0, .int .i64 th.n, .int .i64 th.d, .string ⟨th.x.toArray⟩, .slice ak0 tk.len ck0] 43)) := BX6.trans (hb7.mono BX6.size)
  clear kk hb7
  go_wp2_with fail
  generalize X6.alloc (.cells #[.int .i64 th.k, .string ⟨th.l.toArray⟩, .slice aa0 th.ats.length ca0, .int .i64 th.n, .int .i64 th.d, .string ⟨th.x.toArray⟩, .slice ak0 tk.len ck0] 43) = X7 at *
  clear d0 d1 d2 d3 d4 d5 d6

  refine (ST.out X7 _ LT.out).mono ?_
  rintro e X8 ⟨rfl, hb8⟩
  have BX8 : Below w.heap.size w X8 := BX7.trans (hb8.mono BX7.size)
  have HA := Lib.hid (attrs_below HA.out hb8)
  have HK := Lib.hid (lies_below HK.out hb8)
  have HP := Lib.hid (ints_below HP.out hb8)
  have Kt0 := Lib.hid ((hb8.block _ zt0).trans Kt0.out)
  have zt0 := Nat.lt_of_lt_of_le zt0 hb8.size
  clear LT
  clear hb8
  go_wp2_with fail
  refine (AX.out X8 BX8 _ HP.out).mono ?_
  rintro e X9 ⟨aa1, ca1, ak1, ck1, rfl, hA, hK, hb9⟩
  have BX9 : Below w.heap.size w X9 := BX8.trans (hb9.mono BX8.size)
  have HA := Lib.hid (attrs_below HA.out hb9)
  have HK := Lib.hid (lies_below HK.out hb9)
  have HP := Lib.hid (ints_below HP.out hb9)
  have Kt0 := Lib.hid ((hb9.block _ zt0).trans Kt0.out)
  have zt0 := Nat.lt_of_lt_of_le zt0 hb9.size
  unfold aggOf
  have HA1 := Lib.hid hA
  have HK1 := Lib.hid hK
  clear hA hK AX
  clear hb9
  go_upto_region 7 with fail
  have kk := World.alloc_heap_new X9 (.cells #[.int .i64 xh.k, .string ⟨xh.l.toArray⟩, .slice aa1 xh.ats.length ca1, .int .i64 xh.n, .int .i64 xh.d, .string ⟨xh.x.toArray⟩, .slice ak1 xk.len ck1] 43)
  have hb10 : Below X9.heap.size X9 (X9.alloc (.cells #[.int .i64 xh.k, .string ⟨xh.l.toArray⟩, .slice aa1 xh.ats.length ca1, .int .i64 xh.n, .int .i64 xh.d, .string ⟨xh.x.toArray⟩, .slice ak1 xk.len ck1] 43)) := (Below.refl _ _).alloc (Nat.le_refl _) _
  have zt1 : X9.heap.size < (X9.alloc (.cells #[.int .i64 xh.k, .string ⟨xh.l.toArray⟩, .slice aa1 xh.ats.length ca1, .int .i64 xh.n, .int .i64 xh.d, .string ⟨xh.x.toArray⟩, .slice ak1 xk.len ck1] 43)).heap.size := by simp
  generalize X9.alloc (.cells #[.int .i64 xh.k, .string ⟨xh.l.toArray⟩, .slice aa1 xh.ats.length ca1, .int .i64 xh.n, .int .i64 xh.d, .string ⟨xh.x.toArray⟩, .slice ak1 xk.len ck1] 43) = X10 at *
  have BX10 : Below w.heap.size w X10 := BX9.trans (hb10.mono BX9.size)
  have Kt1 := Lib.hid kk
  clear kk
  have HA := Lib.hid (attrs_below HA.out hb10)
  have HK := Lib.hid (lies_below HK.out hb10)
  have HP := Lib.hid (ints_below HP.out hb10)
  have HA1 := Lib.hid (attrs_below HA1.out hb10)
  have HK1 := Lib.hid (lies_below HK1.out hb10)
  have Kt0 := Lib.hid ((hb10.block _ zt0).trans Kt0.out)
  have zt0 := Nat.lt_of_lt_of_le zt0 hb10.size
  obtain ⟨t1, ht⟩ : ∃ t, t = X9.heap.size := ⟨_, rfl⟩
  rw [← ht] at Kt1 zt1
  rw [← ht]
  clear ht hb10
  have d0 : X10.cell? ⟨t1, 0, none⟩ = some (.int .i64 xh.k) := cell_of_block Kt1.out rfl
  have d1 : X10.cell? ⟨t1, 1, none⟩ = some (.string ⟨xh.l.toArray⟩) := cell_of_block Kt1.out rfl
  have d2 : X10.cell? ⟨t1, 2, none⟩ = some (.slice aa1 xh.ats.length ca1) := cell_of_block Kt1.out rfl
  have d3 : X10.cell? ⟨t1, 3, none⟩ = some (.int .i64 xh.n) := cell_of_block Kt1.out rfl
  have d4 : X10.cell? ⟨t1, 4, none⟩ = some (.int .i64 xh.d) := cell_of_block Kt1.out rfl
  have d5 : X10.cell? ⟨t1, 5, none⟩ = some (.string ⟨xh.x.toArray⟩) := cell_of_block Kt1.out rfl
  have d6 : X10.cell? ⟨t1, 6, none⟩ = some (.slice ak1 xk.len ck1) := cell_of_block Kt1.out rfl
  have kk := World.alloc_heap_new X10 (.cells #[.int .i64 xh.k, .string ⟨xh.l.toArray⟩, .slice aa1 xh.ats.length ca1, .int .i64 xh.n, .int .i64 xh.d, .string ⟨xh.x.toArray⟩, .slice ak1 xk.len ck1] 43)
  have hb11 : Below X10.heap.size X10 (X10.alloc (.cells #[.int .i64 xh.k, .string ⟨xh.l.toArray⟩, .slice aa1 xh.ats.length ca1, .int .i64 xh.n, .int .i64 xh.d, .string ⟨xh.x.toArray⟩, .slice ak1 xk.len ck1] 43)) := (Below.refl _ _).alloc (Nat.le_refl _) _
  have HA := Lib.hid (attrs_below HA.out hb11)
  have HK := Lib.hid (lies_below HK.out hb11)
  have HP := Lib.hid (ints_below HP.out hb11)
  have HA1 := Lib.hid (attrs_below HA1.out hb11)
  have HK1 := Lib.hid (lies_below HK1.out hb11)
  have Kt0 := Lib.hid ((hb11.block _ zt0).trans Kt0.out)
  have zt0 := Nat.lt_of_lt_of_le zt0 hb11.size
  have Kt1 := Lib.hid ((hb11.block _ zt1).trans Kt1.out)
  have zt1 := Nat.lt_of_lt_of_le zt1 hb11.size
  have LT := Lib.hid (lies_one kk HA1.out HK1.out)
  have BX11 : Below w.heap.size w (X10.alloc (.cells #[.int .i64 xh.k, .string ⟨xh.l.toArray⟩, .slice aa1 xh.ats.length ca1, .int .i64 xh.n, .int .i64 xh.d, .string ⟨xh.x.toArray⟩, .slice ak1 xk.len ck1] 43)) := BX10.trans (hb11.mono BX10.size)
  clear kk hb11
  go_wp2_with fail
  generalize X10.alloc (.cells #[.int .i64 xh.k, .string ⟨xh.l.toArray⟩, .slice aa1 xh.ats.length ca1, .int .i64 xh.n, .int .i64 xh.d, .string ⟨xh.x.toArray⟩, .slice ak1 xk.len ck1] 43) = X11 at *
  clear d0 d1 d2 d3 d4 d5 d6

  refine (SW.out X11 _ LT.out).mono ?_
  rintro e X12 ⟨rfl, hb12⟩
  have BX12 : Below w.heap.size w X12 := BX11.trans (hb12.mono BX11.size)
  have HA := Lib.hid (attrs_below HA.out hb12)
  have HK := Lib.hid (lies_below HK.out hb12)
  have HP := Lib.hid (ints_below HP.out hb12)
  have HA1 := Lib.hid (attrs_below HA1.out hb12)
  have HK1 := Lib.hid (lies_below HK1.out hb12)
  have Kt0 := Lib.hid ((hb12.block _ zt0).trans Kt0.out)
  have zt0 := Nat.lt_of_lt_of_le zt0 hb12.size
  have Kt1 := Lib.hid ((hb12.block _ zt1).trans Kt1.out)
  have zt1 := Nat.lt_of_lt_of_le zt1 hb12.size
  clear LT
  clear hb12
  go_wp2_with fail
  refine (CU.out X12 BX12 _ HP.out).mono ?_
  rintro e X13 ⟨v4, rfl, hG, hb13⟩
  have BX13 : Below w.heap.size w X13 := BX12.trans (hb13.mono BX12.size)
  have HA := Lib.hid (attrs_below HA.out hb13)
  have HK := Lib.hid (lies_below HK.out hb13)
  have HP := Lib.hid (ints_below HP.out hb13)
  have HA1 := Lib.hid (attrs_below HA1.out hb13)
  have HK1 := Lib.hid (lies_below HK1.out hb13)
  have Kt0 := Lib.hid ((hb13.block _ zt0).trans Kt0.out)
  have zt0 := Nat.lt_of_lt_of_le zt0 hb13.size
  have Kt1 := Lib.hid ((hb13.block _ zt1).trans Kt1.out)
  have zt1 := Nat.lt_of_lt_of_le zt1 hb13.size
  have HL := Lib.hid (liesF_lies hG)
  obtain ⟨a4, c4, rfl⟩ := liesF_form hG
  clear hG CU
  clear hb13
  go_wp2_with fail
  refine (SL.out X13 _ HL.out).mono ?_
  rintro e X14 ⟨rfl, hb14⟩
  have BX14 : Below w.heap.size w X14 := BX13.trans (hb14.mono BX13.size)
  have HA := Lib.hid (attrs_below HA.out hb14)
  have HK := Lib.hid (lies_below HK.out hb14)
  have HP := Lib.hid (ints_below HP.out hb14)
  have HA1 := Lib.hid (attrs_below HA1.out hb14)
  have HK1 := Lib.hid (lies_below HK1.out hb14)
  have HL := Lib.hid (lies_below HL.out hb14)
  have Kt0 := Lib.hid ((hb14.block _ zt0).trans Kt0.out)
  have zt0 := Nat.lt_of_lt_of_le zt0 hb14.size
  have Kt1 := Lib.hid ((hb14.block _ zt1).trans Kt1.out)
  have zt1 := Nat.lt_of_lt_of_le zt1 hb14.size
  clear hb14
  have d0 : X14.cell? ⟨t1, 0, none⟩ = some (.int .i64 xh.k) := cell_of_block Kt1.out rfl
  have d1 : X14.cell? ⟨t1, 1, none⟩ = some (.string ⟨xh.l.toArray⟩) := cell_of_block Kt1.out rfl
  have d2 : X14.cell? ⟨t1, 2, none⟩ = some (.slice aa1 xh.ats.length ca1) := cell_of_block Kt1.out rfl
  have d3 : X14.cell? ⟨t1, 3, none⟩ = some (.int .i64 xh.n) := cell_of_block Kt1.out rfl
  have d4 : X14.cell? ⟨t1, 4, none⟩ = some (.int .i64 xh.d) := cell_of_block Kt1.out rfl
  have d5 : X14.cell? ⟨t1, 5, none⟩ = some (.string ⟨xh.x.toArray⟩) := cell_of_block Kt1.out rfl
  have d6 : X14.cell? ⟨t1, 6, none⟩ = some (.slice ak1 xk.len ck1) := cell_of_block Kt1.out rfl
  go_wp2_with fail
  refine (IB.out X14 _ _ _ _ _ _ HL.out HP.out HA1.out HK1.out).mono ?_
  rintro e X15 ⟨v5, rfl, hH, hb15⟩
  have BX15 : Below w.heap.size w X15 := BX14.trans (hb15.mono BX14.size)
  have HA := Lib.hid (attrs_below HA.out hb15)
  have HK := Lib.hid (lies_below HK.out hb15)
  have HP := Lib.hid (ints_below HP.out hb15)
  have HA1 := Lib.hid (attrs_below HA1.out hb15)
  have HK1 := Lib.hid (lies_below HK1.out hb15)
  have HL := Lib.hid (lies_below HL.out hb15)
  have Kt0 := Lib.hid ((hb15.block _ zt0).trans Kt0.out)
  have zt0 := Nat.lt_of_lt_of_le zt0 hb15.size
  have Kt1 := Lib.hid ((hb15.block _ zt1).trans Kt1.out)
  have zt1 := Nat.lt_of_lt_of_le zt1 hb15.size
  have HH := Lib.hid (liesF_lies hH)
  obtain ⟨a5, c5, rfl⟩ := liesF_form hH
  clear hH IB
  clear hb15
  clear d0 d1 d2 d3 d4 d5 d6
  clear Kt1 zt1
  clear HA1 HK1
  go_wp2_with fail
  refine (SR.out _ _ _ X15 HH.out (FL.out X15 BX15)).mono ?_
  rintro e X16 ⟨rfl, hb16⟩
  have BX16 : Below w.heap.size w X16 := BX15.trans (hb16.mono BX15.size)
  have HA := Lib.hid (attrs_below HA.out hb16)
  have HK := Lib.hid (lies_below HK.out hb16)
  have HP := Lib.hid (ints_below HP.out hb16)
  have HL := Lib.hid (lies_below HL.out hb16)
  have HH := Lib.hid (lies_below HH.out hb16)
  have Kt0 := Lib.hid ((hb16.block _ zt0).trans Kt0.out)
  have zt0 := Nat.lt_of_lt_of_le zt0 hb16.size
  clear hb16
  clear HH
  have d0 : X16.cell? ⟨t0, 0, none⟩ = some (.int .i64 th.k) := cell_of_block Kt0.out rfl
  have d1 : X16.cell? ⟨t0, 1, none⟩ = some (.string ⟨th.l.toArray⟩) := cell_of_block Kt0.out rfl
  have d2 : X16.cell? ⟨t0, 2, none⟩ = some (.slice aa0 th.ats.length ca0) := cell_of_block Kt0.out rfl
  have d3 : X16.cell? ⟨t0, 3, none⟩ = some (.int .i64 th.n) := cell_of_block Kt0.out rfl
  have d4 : X16.cell? ⟨t0, 4, none⟩ = some (.int .i64 th.d) := cell_of_block Kt0.out rfl
  have d5 : X16.cell? ⟨t0, 5, none⟩ = some (.string ⟨th.x.toArray⟩) := cell_of_block Kt0.out rfl
  have d6 : X16.cell? ⟨t0, 6, none⟩ = some (.slice ak0 tk.len ck0) := cell_of_block Kt0.out rfl
  go_wp2_with fail
  refine (IN.out X16 BX16 _ _ _ _ _ HP.out HA.out HK.out).mono ?_
  rintro e X17 ⟨v6, rfl, hG, hb17⟩
  have BX17 : Below w.heap.size w X17 := BX16.trans (hb17.mono BX16.size)
  have HA := Lib.hid (attrs_below HA.out hb17)
  have HK := Lib.hid (lies_below HK.out hb17)
  have HP := Lib.hid (ints_below HP.out hb17)
  have HL := Lib.hid (lies_below HL.out hb17)
  have Kt0 := Lib.hid ((hb17.block _ zt0).trans Kt0.out)
  have zt0 := Nat.lt_of_lt_of_le zt0 hb17.size
  have HS := Lib.hid (liesF_lies hG)
  obtain ⟨a6, c6, rfl⟩ := liesF_form hG
  clear hG IN
  clear hb17
  clear d0 d1 d2 d3 d4 d5 d6
  go_wp2_with fail
  refine (SS.out X17 _ HS.out).mono ?_
  rintro e X18 ⟨rfl, hb18⟩
  have BX18 : Below w.heap.size w X18 := BX17.trans (hb18.mono BX17.size)
  have HA := Lib.hid (attrs_below HA.out hb18)
  have HK := Lib.hid (lies_below HK.out hb18)
  have HP := Lib.hid (ints_below HP.out hb18)
  have HL := Lib.hid (lies_below HL.out hb18)
  have HS := Lib.hid (lies_below HS.out hb18)
  have Kt0 := Lib.hid ((hb18.block _ zt0).trans Kt0.out)
  have zt0 := Nat.lt_of_lt_of_le zt0 hb18.size
  clear hb18
  go_wp2_with fail
  refine (AG.out X18 _ _ HS.out HP.out).mono ?_
  rintro e X19 ⟨aa2, ca2, ak2, ck2, rfl, hA, hK, hb19⟩
  have BX19 : Below w.heap.size w X19 := BX18.trans (hb19.mono BX18.size)
  have HA := Lib.hid (attrs_below HA.out hb19)
  have HK := Lib.hid (lies_below HK.out hb19)
  have HP := Lib.hid (ints_below HP.out hb19)
  have HL := Lib.hid (lies_below HL.out hb19)
  have HS := Lib.hid (lies_below HS.out hb19)
  have Kt0 := Lib.hid ((hb19.block _ zt0).trans Kt0.out)
  have zt0 := Nat.lt_of_lt_of_le zt0 hb19.size
  unfold aggOf
  have HA2 := Lib.hid hA
  have HK2 := Lib.hid hK
  clear hA hK AG
  clear hb19
  go_upto_region 20 with fail
  have kk := World.alloc_heap_new X19 (.cells #[.int .i64 th.k, .string ⟨th.l.toArray⟩, .slice aa2 th.ats.length ca2, .int .i64 th.n, .int .i64 th.d, .string ⟨th.x.toArray⟩, .slice ak2 tk.len ck2] 43)
  have hb20 : Below X19.heap.size X19 (X19.alloc (.cells #[.int .i64 th.k, .string ⟨th.l.toArray⟩, .slice aa2 th.ats.length ca2, .int .i64 th.n, .int .i64 th.d, .string ⟨th.x.toArray⟩, .slice ak2 tk.len ck2] 43)) := (Below.refl _ _).alloc (Nat.le_refl _) _
  have zt2 : X19.heap.size < (X19.alloc (.cells #[.int .i64 th.k, .string ⟨th.l.toArray⟩, .slice aa2 th.ats.length ca2, .int .i64 th.n, .int .i64 th.d, .string ⟨th.x.toArray⟩, .slice ak2 tk.len ck2] 43)).heap.size := by simp
  generalize X19.alloc (.cells #[.int .i64 th.k, .string ⟨th.l.toArray⟩, .slice aa2 th.ats.length ca2, .int .i64 th.n, .int .i64 th.d, .string ⟨th.x.toArray⟩, .slice ak2 tk.len ck2] 43) = X20 at *
  have BX20 : Below w.heap.size w X20 := BX19.trans (hb20.mono BX19.size)
  have Kt2 := Lib.hid kk
  clear kk
  have HA := Lib.hid (attrs_below HA.out hb20)
  have HK := Lib.hid (lies_below HK.out hb20)
  have HP := Lib.hid (ints_below HP.out hb20)
  have HL := Lib.hid (lies_below HL.out hb20)
  have HS := Lib.hid (lies_below HS.out hb20)
  have HA2 := Lib.hid (attrs_below HA2.out hb20)
  have HK2 := Lib.hid (lies_below HK2.out hb20)
  have Kt0 := Lib.hid ((hb20.block _ zt0).trans Kt0.out)
  have zt0 := Nat.lt_of_lt_of_le zt0 hb20.size
  obtain ⟨t2, ht⟩ : ∃ t, t = X19.heap.size := ⟨_, rfl⟩
  rw [← ht] at Kt2 zt2
  rw [← ht]
  clear ht hb20
  go_wp2_with fail
  refine (CB.out X20 _ _ HS.out HP.out).mono ?_
  rintro e X21 ⟨v7, rfl, hG, hb21⟩
  have BX21 : Below w.heap.size w X21 := BX20.trans (hb21.mono BX20.size)
  have HA := Lib.hid (attrs_below HA.out hb21)
  have HK := Lib.hid (lies_below HK.out hb21)
  have HP := Lib.hid (ints_below HP.out hb21)
  have HL := Lib.hid (lies_below HL.out hb21)
  have HS := Lib.hid (lies_below HS.out hb21)
  have HA2 := Lib.hid (attrs_below HA2.out hb21)
  have HK2 := Lib.hid (lies_below HK2.out hb21)
  have Kt0 := Lib.hid ((hb21.block _ zt0).trans Kt0.out)
  have zt0 := Nat.lt_of_lt_of_le zt0 hb21.size
  have Kt2 := Lib.hid ((hb21.block _ zt2).trans Kt2.out)
  have zt2 := Nat.lt_of_lt_of_le zt2 hb21.size
  have HB := Lib.hid (liesF_lies hG)
  obtain ⟨a7, c7, rfl⟩ := liesF_form hG
  clear hG CB
  clear hb21
  clear HS HP
  go_wp2_with fail
  refine (CC.out X21 BX21 _ HL.out).mono ?_
  rintro e X22 ⟨v8, rfl, hG, hb22⟩
  have BX22 : Below w.heap.size w X22 := BX21.trans (hb22.mono BX21.size)
  have HA := Lib.hid (attrs_below HA.out hb22)
  have HK := Lib.hid (lies_below HK.out hb22)
  have HL := Lib.hid (lies_below HL.out hb22)
  have HA2 := Lib.hid (attrs_below HA2.out hb22)
  have HK2 := Lib.hid (lies_below HK2.out hb22)
  have HB := Lib.hid (lies_below HB.out hb22)
  have Kt0 := Lib.hid ((hb22.block _ zt0).trans Kt0.out)
  have zt0 := Nat.lt_of_lt_of_le zt0 hb22.size
  have Kt2 := Lib.hid ((hb22.block _ zt2).trans Kt2.out)
  have zt2 := Nat.lt_of_lt_of_le zt2 hb22.size
  obtain ⟨a8, c8, rfl⟩ := liesF_form hG
  clear hG CC
  clear hb22
  have d0 : X22.cell? ⟨t2, 0, none⟩ = some (.int .i64 th.k) := cell_of_block Kt2.out rfl
  have d1 : X22.cell? ⟨t2, 1, none⟩ = some (.string ⟨th.l.toArray⟩) := cell_of_block Kt2.out rfl
  have d2 : X22.cell? ⟨t2, 2, none⟩ = some (.slice aa2 th.ats.length ca2) := cell_of_block Kt2.out rfl
  have d3 : X22.cell? ⟨t2, 3, none⟩ = some (.int .i64 th.n) := cell_of_block Kt2.out rfl
  have d4 : X22.cell? ⟨t2, 4, none⟩ = some (.int .i64 th.d) := cell_of_block Kt2.out rfl
  have d5 : X22.cell? ⟨t2, 5, none⟩ = some (.string ⟨th.x.toArray⟩) := cell_of_block Kt2.out rfl
  have d6 : X22.cell? ⟨t2, 6, none⟩ = some (.slice ak2 tk.len ck2) := cell_of_block Kt2.out rfl
  have c0 : X22.cell? ⟨t0, 0, none⟩ = some (.int .i64 th.k) := cell_of_block Kt0.out rfl
  have c1 : X22.cell? ⟨t0, 1, none⟩ = some (.string ⟨th.l.toArray⟩) := cell_of_block Kt0.out rfl
  have c2 : X22.cell? ⟨t0, 2, none⟩ = some (.slice aa0 th.ats.length ca0) := cell_of_block Kt0.out rfl
  have c3 : X22.cell? ⟨t0, 3, none⟩ = some (.int .i64 th.n) := cell_of_block Kt0.out rfl
  have c4 : X22.cell? ⟨t0, 4, none⟩ = some (.int .i64 th.d) := cell_of_block Kt0.out rfl
  have c5 : X22.cell? ⟨t0, 5, none⟩ = some (.string ⟨th.x.toArray⟩) := cell_of_block Kt0.out rfl
  have c6 : X22.cell? ⟨t0, 6, none⟩ = some (.slice ak0 tk.len ck0) := cell_of_block Kt0.out rfl
  have k1 : (((f.size + (tk.size + 1) : Nat) : Int) != ((f.size : Int) + ((tk.size : Int) + 1))) = false := by simp
  have k8 := World.alloc_heap_new X22 (.cells #[.int .i64 th.k, .string ⟨th.l.toArray⟩, .slice aa2 th.ats.length ca2, .int .i64 th.n, .int .i64 th.d, .string ⟨th.x.toArray⟩, .slice ak2 tk.len ck2] 43)
  have ba8 : Below X22.heap.size X22 (X22.alloc (.cells #[.int .i64 th.k, .string ⟨th.l.toArray⟩, .slice aa2 th.ats.length ca2, .int .i64 th.n, .int .i64 th.d, .string ⟨th.x.toArray⟩, .slice ak2 tk.len ck2] 43)) := (Below.refl _ _).alloc (Nat.le_refl _) _
  have e8 : (X22.alloc (.cells #[.int .i64 th.k, .string ⟨th.l.toArray⟩, .slice aa2 th.ats.length ca2, .int .i64 th.n, .int .i64 th.d, .string ⟨th.x.toArray⟩, .slice ak2 tk.len ck2] 43)).heap.size = X22.heap.size + 1 := by simp
  have ba9 : Below (X22.alloc (.cells #[.int .i64 th.k, .string ⟨th.l.toArray⟩, .slice aa2 th.ats.length ca2, .int .i64 th.n, .int .i64 th.d, .string ⟨th.x.toArray⟩, .slice ak2 tk.len ck2] 43)).heap.size (X22.alloc (.cells #[.int .i64 th.k, .string ⟨th.l.toArray⟩, .slice aa2 th.ats.length ca2, .int .i64 th.n, .int .i64 th.d, .string ⟨th.x.toArray⟩, .slice ak2 tk.len ck2] 43)) ((X22.alloc (.cells #[.int .i64 th.k, .string ⟨th.l.toArray⟩, .slice aa2 th.ats.length ca2, .int .i64 th.n, .int .i64 th.d, .string ⟨th.x.toArray⟩, .slice ak2 tk.len ck2] 43)).alloc (.cells #[.int .i64 th.k, .string ⟨th.l.toArray⟩, .slice aa0 th.ats.length ca0, .int .i64 th.n, .int .i64 th.d, .string ⟨th.x.toArray⟩, .slice ak0 tk.len ck0] 43)) := (Below.refl _ _).alloc (Nat.le_refl _) _
  have k9 := World.alloc_heap_new (X22.alloc (.cells #[.int .i64 th.k, .string ⟨th.l.toArray⟩, .slice aa2 th.ats.length ca2, .int .i64 th.n, .int .i64 th.d, .string ⟨th.x.toArray⟩, .slice ak2 tk.len ck2] 43)) (.cells #[.int .i64 th.k, .string ⟨th.l.toArray⟩, .slice aa0 th.ats.length ca0, .int .i64 th.n, .int .i64 th.d, .string ⟨th.x.toArray⟩, .slice ak0 tk.len ck0] 43)
  have L1 := Lib.hid (lies_below (lies_one k8 (attrs_below HA2.out ba8) (lies_below HK2.out ba8)) ba9)
  have hb24 := ba8.trans (ba9.mono (by omega))
  have BX24 : Below w.heap.size w ((X22.alloc (.cells #[.int .i64 th.k, .string ⟨th.l.toArray⟩, .slice aa2 th.ats.length ca2, .int .i64 th.n, .int .i64 th.d, .string ⟨th.x.toArray⟩, .slice ak2 tk.len ck2] 43)).alloc (.cells #[.int .i64 th.k, .string ⟨th.l.toArray⟩, .slice aa0 th.ats.length ca0, .int .i64 th.n, .int .i64 th.d, .string ⟨th.x.toArray⟩, .slice ak0 tk.len ck0] 43)) := BX22.trans (hb24.mono BX22.size)
  have L2 := Lib.hid (lies_one k9 (attrs_below HA.out hb24) (lies_below HK.out hb24))
  rw [e8] at L2
  have HA := Lib.hid (attrs_below HA.out hb24)
  have HK := Lib.hid (lies_below HK.out hb24)
  have HL := Lib.hid (lies_below HL.out hb24)
  have HA2 := Lib.hid (attrs_below HA2.out hb24)
  have HK2 := Lib.hid (lies_below HK2.out hb24)
  have HB := Lib.hid (lies_below HB.out hb24)
  have Kt0 := Lib.hid ((hb24.block _ zt0).trans Kt0.out)
  have zt0 := Nat.lt_of_lt_of_le zt0 hb24.size
  have Kt2 := Lib.hid ((hb24.block _ zt2).trans Kt2.out)
  have zt2 := Nat.lt_of_lt_of_le zt2 hb24.size
  clear k8 k9 ba8 ba9 e8 hb24
  go_wp2_with fail
  generalize (X22.alloc (.cells #[.int .i64 th.k, .string ⟨th.l.toArray⟩, .slice aa2 th.ats.length ca2, .int .i64 th.n, .int .i64 th.d, .string ⟨th.x.toArray⟩, .slice ak2 tk.len ck2] 43)).alloc (.cells #[.int .i64 th.k, .string ⟨th.l.toArray⟩, .slice aa0 th.ats.length ca0, .int .i64 th.n, .int .i64 th.d, .string ⟨th.x.toArray⟩, .slice ak0 tk.len ck0] 43) = X24 at *
  clear d0 d1 d2 d3 d4 d5 d6
  clear c0 c1 c2 c3 c4 c5 c6

  refine (SR.out _ _ _ X24 L1.out L2.out).mono ?_
  rintro e X25 ⟨rfl, hb25⟩
  have BX25 : Below w.heap.size w X25 := BX24.trans (hb25.mono BX24.size)
  have HA := Lib.hid (attrs_below HA.out hb25)
  have HK := Lib.hid (lies_below HK.out hb25)
  have HL := Lib.hid (lies_below HL.out hb25)
  have HA2 := Lib.hid (attrs_below HA2.out hb25)
  have HK2 := Lib.hid (lies_below HK2.out hb25)
  have HB := Lib.hid (lies_below HB.out hb25)
  have Kt0 := Lib.hid ((hb25.block _ zt0).trans Kt0.out)
  have zt0 := Nat.lt_of_lt_of_le zt0 hb25.size
  have Kt2 := Lib.hid ((hb25.block _ zt2).trans Kt2.out)
  have zt2 := Nat.lt_of_lt_of_le zt2 hb25.size
  clear L1 L2
  clear hb25
  clear Kt2 zt2 Kt0 zt0
  clear HA2 HK2 HA HK
  go_wp2_with fail
  refine (SR.out _ _ _ X25 HB.out (FL.out X25 BX25)).mono ?_
  rintro e X26 ⟨rfl, hb26⟩
  have BX26 : Below w.heap.size w X26 := BX25.trans (hb26.mono BX25.size)
  have HL := Lib.hid (lies_below HL.out hb26)
  have HB := Lib.hid (lies_below HB.out hb26)
  clear hb26
  clear HB
  go_wp2_with fail
  refine (GR.out _).mono ?_
  rintro e X27 ⟨rfl, hb27⟩
  have BX27 : Below w.heap.size w X27 := BX26.trans (hb27.mono BX26.size)
  have HL := Lib.hid (lies_below HL.out hb27)
  clear hb27
  go_wp2_with fail
  go_ret
  exact ⟨rfl, BX27⟩

set_option maxRecDepth 100000 in
set_option maxHeartbeats 8000000 in
theorem tcuts_ok (f : Fo) (v : Value) (th : Hd) (tk : Fo) (va vk : Value) (a : Nat) (w : World) (hl : Lies w v f) (ha : AttrsLie w va th.ats) (hk : Lies w vk tk) (ka : Nat) (x : Vis) (hf : fitB f = true) (hf2 : fitB (.cons th tk .nil) = true) (hlen : f.len ≠ 0) (hma : a ≤ 65535) (hx : (seqAt [] 0 f)[ka]? = some x) (hka : Int.tmod (a : Int) (f.size : Int) = (ka : Int))
    (hbo : (insV f (pathInts x.p) (.cons th tk .nil)).2 = 0) (hcc : (bndErr (f.app (cutV f (pathInts x.p)).1)) = 0) :
    Calls Tryz.prog 9 #[v, treeA th va vk, .int .u16 (a : Int)] w fun e w' => e = .returned (.bool true) ∧ Below w.heap.size w w' := by
  have GR := Lib.hid (fun w => grown_any w)
  have FF := Lib.hid (fun W (hW : Below w.heap.size w W) => fit_any f v W (lies_below hl hW))
  have FT := Lib.hid (fun W y (h : Lies W y (.cons th tk .nil)) => fit_any (.cons th tk .nil) y W h)
  have HA := Lib.hid ha
  have HK := Lib.hid hk
  have BX0 := Below.refl w.heap.size w
  obtain ⟨av, cv, rfl⟩ := lies_form hl
  obtain ⟨aa0, ca0, rfl⟩ := attrs_form ha
  obtain ⟨ak0, ck0, rfl⟩ := lies_form hk
  unfold treeA
  have h0 := (fit_parts hf).2
  have t0 := (fit_parts hf2).2
  have hs := small_ok h0
  have ts := small_ok t0
  rw [hf] at FF
  rw [hf2] at FT
  obtain ⟨q, i, g, ep, hg, hn⟩ := vis_split (List.mem_of_getElem? hx)
  have xm := List.mem_of_getElem? hx
  obtain ⟨⟨pc1, zL, sL, pc4⟩, pi1, pi2⟩ := cut_vals h0 t0 hg hn
  rw [← ep] at pc1 pc4 pi1 pi2
  have px := path_len xm
  have hsz := hs.size
  simp only [List.length_nil, Nat.zero_add] at px
  have hpx : x.p.length ≤ 1000000 := by omega
  have hpl : (pathInts x.p).length ≤ 1000000 := by simpa using hpx
  have zw := one_ok (place_at xm) h0
  have ls := small_ok zL
  have CX := Lib.hid (fun W (hW : Below w.heap.size w W) => chosen_any f _ a ka x W (lies_below hl hW) hs.size hma hx hka)
  have SZ := Lib.hid (fun W (hW : Below w.heap.size w W) => tsize_any f _ W (lies_below hl hW) hs)
  rw [size_val h0] at SZ
  have ST := Lib.hid (fun W y (h : Lies W y (.cons th tk .nil)) => tsize_any (.cons th tk .nil) y W h ts)
  rw [size_val t0, show (Fo.cons th tk .nil).size = tk.size + 1 from rfl] at ST
  have SW := Lib.hid (fun W y (h : Lies W y (.cons x.h x.ks .nil)) => tsize_any (.cons x.h x.ks .nil) y W h (small_ok zw))
  rw [size_val zw, show (Fo.cons x.h x.ks .nil).size = x.ks.size + 1 from rfl] at SW
  have AX := Lib.hid (fun W (hW : Below w.heap.size w W) pv (hp : IntsLie W pv (pathInts x.p)) => (at_any f (pathInts x.p) _ pv W (lies_below hl hW) hs hp hpl).mono fun _ _ h => at_ok (at_val h0 xm) (place_at xm) h)
  have CU := Lib.hid (fun W (hW : Below w.heap.size w W) pv (hp : IntsLie W pv (pathInts x.p)) => tcut_any f (pathInts x.p) _ pv W (lies_below hl hW) hp hpl hs)
  rw [pc1] at CU
  have SL := Lib.hid (fun W y (h : Lies W y (changeAt f q (spl g i 1 .nil))) => tsize_any (changeAt f q (spl g i 1 .nil)) y W h ls)
  rw [size_val zL] at SL
  have IB := Lib.hid (fun W u pv aa ca ak ck (h : Lies W u (changeAt f q (spl g i 1 .nil))) (hp : IntsLie W pv (pathInts x.p)) (h1 : AttrsLie W (.slice aa x.h.ats.length ca) x.h.ats) (h2 : Lies W (.slice ak x.ks.len ck) x.ks) => tinsert_any (changeAt f q (spl g i 1 .nil)) (pathInts x.p) x.h x.ks u pv aa ca ak ck W h hp hpl h1 h2 ls (small_ok zw))
  rw [pc4] at IB
  unfold aggOf at IB
  have IN := Lib.hid (fun W (hW : Below w.heap.size w W) pv aa ca ak ck (hp : IntsLie W pv (pathInts x.p)) (h1 : AttrsLie W (.slice aa th.ats.length ca) th.ats) (h2 : Lies W (.slice ak tk.len ck) tk) => tinsert_any f (pathInts x.p) th tk _ pv aa ca ak ck W (lies_below hl hW) hp hpl h1 h2 hs ts)
  rw [pi1] at IN
  unfold aggOf at IN
  have SR := Lib.hid (fun (F : Fo) x y W (h1 : Lies W x F) (h2 : Lies W y F) => same_refl F.size F (Nat.le_refl _) x y W h1 h2)
  have FL := Lib.hid (fun W (hW : Below w.heap.size w W) => lies_below hl hW)
  have hbn : bndErr (changeAt f q (spl g i 0 (.cons th tk .nil))) = 0 := by
    rw [pi1] at hbo
    rcases in_bnd (changeAt f q (spl g i 0 (.cons th tk .nil))) with ⟨h, -⟩ | h | h
    · exact h
    · rw [h] at hbo; cases hbo
    · rw [h] at hbo; cases hbo
  rw [pc1] at hcc
  obtain ⟨zS, pg, pcb, sS⟩ := pi2 hbn
  have ss := small_ok zS
  rw [show inBnd (changeAt f q (spl g i 0 (.cons th tk .nil))) = (changeAt f q (spl g i 0 (.cons th tk .nil)), 0) by unfold inBnd; rw [if_pos hbn]] at IN
  have SS := Lib.hid (fun W y (h : Lies W y (changeAt f q (spl g i 0 (.cons th tk .nil)))) => tsize_any (changeAt f q (spl g i 0 (.cons th tk .nil))) y W h ss)
  rw [size_val zS, sS] at SS
  have hne : pathInts x.p ≠ [] := by simpa using path_ne xm
  have ap : atErr (changeAt f q (spl g i 0 (.cons th tk .nil))) (pathInts x.p) = 0 := by unfold atErr placeErr; rw [if_neg hne, pg, zS]; rfl
  have AG := Lib.hid (fun W u pv (h : Lies W u (changeAt f q (spl g i 0 (.cons th tk .nil)))) (hp : IntsLie W pv (pathInts x.p)) => (at_any (changeAt f q (spl g i 0 (.cons th tk .nil))) (pathInts x.p) u pv W h ss hp hpl).mono fun _ _ h => at_ok ap pg h)
  have CB := Lib.hid (fun W u pv (h : Lies W u (changeAt f q (spl g i 0 (.cons th tk .nil)))) (hp : IntsLie W pv (pathInts x.p)) => tcut_any (changeAt f q (spl g i 0 (.cons th tk .nil))) (pathInts x.p) u pv W h hp hpl ss)
  rw [pcb] at CB
  have CC := Lib.hid (fun W (hW : Below w.heap.size w W) u (h : Lies W u (changeAt f q (spl g i 1 .nil))) => tconcat_any f (changeAt f q (spl g i 1 .nil)) _ u W (lies_below hl hW) h hs ls)
  rw [app_ok h0 zL] at CC
  rw [show inBnd (f.app (changeAt f q (spl g i 1 .nil))) = (f.app (changeAt f q (spl g i 1 .nil)), 0) by unfold inBnd; rw [if_pos hcc]] at CC
  have eZ : ((f.len : Int) == 0) = false := by simp; omega
  have hfl : 0 < f.len := by omega
  have n1 : (((changeAt f q (spl g i 1 .nil)).size : Int) != ((f.size : Int) - ((x.ks.size : Int) + 1))) = false := by simp; omega
  have m1 : f.size ≤ 400 := (fo_zero.1 h0).1
  have m2 : tk.size + 1 ≤ 400 := by have := (fo_zero.1 t0).1; simp only [Fo.size] at this; omega
  have m3 : x.ks.size + 1 ≤ f.size := by omega
  clear hl ha hk hf hf2 hx h0 t0 hs ts px hsz hpx hpl hka hma hlen xm pc1 zL sL pc4 pi1 pi2 hg hn ep zw ls hbo hbn zS pg pcb sS ss hne ap hcc
  generalize changeAt f q (spl g i 1 .nil) = L at *
  generalize changeAt f q (spl g i 0 (.cons th tk .nil)) = S at *
  generalize x.p = xp at *
  generalize x.h = xh at *
  generalize x.ks = xk at *
  go_enter Tryz.func9, Tryz.ntmps9
  go_upto_region 1 with fail
  have kk := World.alloc_heap_new w (.cells #[.int .i64 th.k, .string ⟨th.l.toArray⟩, .slice aa0 th.ats.length ca0, .int .i64 th.n, .int .i64 th.d, .string ⟨th.x.toArray⟩, .slice ak0 tk.len ck0] 43)
  have hb1 : Below w.heap.size w (w.alloc (.cells #[.int .i64 th.k, .string ⟨th.l.toArray⟩, .slice aa0 th.ats.length ca0, .int .i64 th.n, .int .i64 th.d, .string ⟨th.x.toArray⟩, .slice ak0 tk.len ck0] 43)) := (Below.refl _ _).alloc (Nat.le_refl _) _
  have zt0 : w.heap.size < (w.alloc (.cells #[.int .i64 th.k, .string ⟨th.l.toArray⟩, .slice aa0 th.ats.length ca0, .int .i64 th.n, .int .i64 th.d, .string ⟨th.x.toArray⟩, .slice ak0 tk.len ck0] 43)).heap.size := by simp
  generalize w.alloc (.cells #[.int .i64 th.k, .string ⟨th.l.toArray⟩, .slice aa0 th.ats.length ca0, .int .i64 th.n, .int .i64 th.d, .string ⟨th.x.toArray⟩, .slice ak0 tk.len ck0] 43) = X1 at *
  have BX1 : Below w.heap.size w X1 := hb1
  have Kt0 := Lib.hid kk
  clear kk
  have HA := Lib.hid (attrs_below HA.out hb1)
  have HK := Lib.hid (lies_below HK.out hb1)
  obtain ⟨t0, ht⟩ : ∃ t, t = w.heap.size := ⟨_, rfl⟩
  rw [← ht] at Kt0 zt0
  have hpp : (Value.pointer (some ⟨w.heap.size, 0, none⟩)) = .pointer (some ⟨t0, 0, none⟩) := by rw [ht]
  rw [hpp]
  clear hpp ht hb1
  go_wp2_with fail
  refine (FF.out X1 BX1).mono ?_
  rintro e X2 ⟨rfl, hb2⟩
  have BX2 : Below w.heap.size w X2 := BX1.trans (hb2.mono BX1.size)
  have HA := Lib.hid (attrs_below HA.out hb2)
  have HK := Lib.hid (lies_below HK.out hb2)
  have Kt0 := Lib.hid ((hb2.block _ zt0).trans Kt0.out)
  have zt0 := Nat.lt_of_lt_of_le zt0 hb2.size
  clear hb2
  have d0 : X2.cell? ⟨t0, 0, none⟩ = some (.int .i64 th.k) := cell_of_block Kt0.out rfl
  have d1 : X2.cell? ⟨t0, 1, none⟩ = some (.string ⟨th.l.toArray⟩) := cell_of_block Kt0.out rfl
  have d2 : X2.cell? ⟨t0, 2, none⟩ = some (.slice aa0 th.ats.length ca0) := cell_of_block Kt0.out rfl
  have d3 : X2.cell? ⟨t0, 3, none⟩ = some (.int .i64 th.n) := cell_of_block Kt0.out rfl
  have d4 : X2.cell? ⟨t0, 4, none⟩ = some (.int .i64 th.d) := cell_of_block Kt0.out rfl
  have d5 : X2.cell? ⟨t0, 5, none⟩ = some (.string ⟨th.x.toArray⟩) := cell_of_block Kt0.out rfl
  have d6 : X2.cell? ⟨t0, 6, none⟩ = some (.slice ak0 tk.len ck0) := cell_of_block Kt0.out rfl
  have kk := World.alloc_heap_new X2 (.cells #[.int .i64 th.k, .string ⟨th.l.toArray⟩, .slice aa0 th.ats.length ca0, .int .i64 th.n, .int .i64 th.d, .string ⟨th.x.toArray⟩, .slice ak0 tk.len ck0] 43)
  have hb3 : Below X2.heap.size X2 (X2.alloc (.cells #[.int .i64 th.k, .string ⟨th.l.toArray⟩, .slice aa0 th.ats.length ca0, .int .i64 th.n, .int .i64 th.d, .string ⟨th.x.toArray⟩, .slice ak0 tk.len ck0] 43)) := (Below.refl _ _).alloc (Nat.le_refl _) _
  have HA := Lib.hid (attrs_below HA.out hb3)
  have HK := Lib.hid (lies_below HK.out hb3)
  have Kt0 := Lib.hid ((hb3.block _ zt0).trans Kt0.out)
  have zt0 := Nat.lt_of_lt_of_le zt0 hb3.size
  have LT := Lib.hid (lies_one kk HA.out HK.out)
  have BX3 : Below w.heap.size w (X2.alloc (.cells #[.int .i64 th.k, .string ⟨th.l.toArray⟩, .slice aa0 th.ats.length ca0, .int .i64 th.n, .int .i64 th.d, .string ⟨th.x.toArray⟩, .slice ak0 tk.len ck0] 43)) := BX2.trans (hb3.mono BX2.size)
  clear kk hb3
  go_wp2_with fail
  generalize X2.alloc (.cells #[.int .i64 th.k, .string ⟨th.l.toArray⟩, .slice aa0 th.ats.length ca0, .int .i64 th.n, .int .i64 th.d, .string ⟨th.x.toArray⟩, .slice ak0 tk.len ck0] 43) = X3 at *
  clear d0 d1 d2 d3 d4 d5 d6

  refine (FT.out X3 _ LT.out).mono ?_
  rintro e X4 ⟨rfl, hb4⟩
  have BX4 : Below w.heap.size w X4 := BX3.trans (hb4.mono BX3.size)
  have HA := Lib.hid (attrs_below HA.out hb4)
  have HK := Lib.hid (lies_below HK.out hb4)
  have Kt0 := Lib.hid ((hb4.block _ zt0).trans Kt0.out)
  have zt0 := Nat.lt_of_lt_of_le zt0 hb4.size
  clear LT
  clear hb4
  go_wp2_with fail
  refine (CX.out X4 BX4).mono ?_
  rintro e X5 ⟨aP, cP, rfl, hP, hb5⟩
  have BX5 : Below w.heap.size w X5 := BX4.trans (hb5.mono BX4.size)
  have HA := Lib.hid (attrs_below HA.out hb5)
  have HK := Lib.hid (lies_below HK.out hb5)
  have Kt0 := Lib.hid ((hb5.block _ zt0).trans Kt0.out)
  have zt0 := Nat.lt_of_lt_of_le zt0 hb5.size
  have HP := Lib.hid (intsF_lies hP)
  clear hP CX
  clear hb5
  go_wp2_with fail
  refine (SZ.out X5 BX5).mono ?_
  rintro e X6 ⟨rfl, hb6⟩
  have BX6 : Below w.heap.size w X6 := BX5.trans (hb6.mono BX5.size)
  have HA := Lib.hid (attrs_below HA.out hb6)
  have HK := Lib.hid (lies_below HK.out hb6)
  have HP := Lib.hid (ints_below HP.out hb6)
  have Kt0 := Lib.hid ((hb6.block _ zt0).trans Kt0.out)
  have zt0 := Nat.lt_of_lt_of_le zt0 hb6.size
  clear hb6
  have d0 : X6.cell? ⟨t0, 0, none⟩ = some (.int .i64 th.k) := cell_of_block Kt0.out rfl
  have d1 : X6.cell? ⟨t0, 1, none⟩ = some (.string ⟨th.l.toArray⟩) := cell_of_block Kt0.out rfl
  have d2 : X6.cell? ⟨t0, 2, none⟩ = some (.slice aa0 th.ats.length ca0) := cell_of_block Kt0.out rfl
  have d3 : X6.cell? ⟨t0, 3, none⟩ = some (.int .i64 th.n) := cell_of_block Kt0.out rfl
  have d4 : X6.cell? ⟨t0, 4, none⟩ = some (.int .i64 th.d) := cell_of_block Kt0.out rfl
  have d5 : X6.cell? ⟨t0, 5, none⟩ = some (.string ⟨th.x.toArray⟩) := cell_of_block Kt0.out rfl
  have d6 : X6.cell? ⟨t0, 6, none⟩ = some (.slice ak0 tk.len ck0) := cell_of_block Kt0.out rfl
  have kk := World.alloc_heap_new X6 (.cells #[.int .i64 th.k, .string ⟨th.l.toArray⟩, .slice aa0 th.ats.length ca0, .int .i64 th.n, .int .i64 th.d, .string ⟨th.x.toArray⟩, .slice ak0 tk.len ck0] 43)
  have hb7 : Below X6.heap.size X6 (X6.alloc (.cells #[.int .i64 th.k, .string ⟨th.l.toArray⟩, .slice aa0 th.ats.length ca0, .int .i64 th.n, .int .i64 th.d, .string ⟨th.x.toArray⟩, .slice ak0 tk.len ck0] 43)) := (Below.refl _ _).alloc (Nat.le_refl _) _
  have HA := Lib.hid (attrs_below HA.out hb7)
  have HK := Lib.hid (lies_below HK.out hb7)
  have HP := Lib.hid (ints_below HP.out hb7)
  have Kt0 := Lib.hid ((hb7.block _ zt0).trans Kt0.out)
  have zt0 := Nat.lt_of_lt_of_le zt0 hb7.size
  have LT := Lib.hid (lies_one kk HA.out HK.out)
  have BX7 : Below w.heap.size w (X6.alloc (.cells #[.int .i64 th.k, .string ⟨th.l.toArray⟩, .slice aa0 th.ats.length ca0, .int .i64 th.n, .int .i64 th.d, .string ⟨th.x.toArray⟩, .slice ak0 tk.len ck0] 43)) := BX6.trans (hb7.mono BX6.size)
  clear kk hb7
  go_wp2_with fail
  generalize X6.alloc (.cells #[.int .i64 th.k, .string ⟨th.l.toArray⟩, .slice aa0 th.ats.length ca0, .int .i64 th.n, .int .i64 th.d, .string ⟨th.x.toArray⟩, .slice ak0 tk.len ck0] 43) = X7 at *
  clear d0 d1 d2 d3 d4 d5 d6

  refine (ST.out X7 _ LT.out).mono ?_
  rintro e X8 ⟨rfl, hb8⟩
  have BX8 : Below w.heap.size w X8 := BX7.trans (hb8.mono BX7.size)
  have HA := Lib.hid (attrs_below HA.out hb8)
  have HK := Lib.hid (lies_below HK.out hb8)
  have HP := Lib.hid (ints_below HP.out hb8)
  have Kt0 := Lib.hid ((hb8.block _ zt0).trans Kt0.out)
  have zt0 := Nat.lt_of_lt_of_le zt0 hb8.size
  clear LT
  clear hb8
  go_wp2_with fail
  refine (AX.out X8 BX8 _ HP.out).mono ?_
  rintro e X9 ⟨aa1, ca1, ak1, ck1, rfl, hA, hK, hb9⟩
  have BX9 : Below w.heap.size w X9 := BX8.trans (hb9.mono BX8.size)
  have HA := Lib.hid (attrs_below HA.out hb9)
  have HK := Lib.hid (lies_below HK.out hb9)
  have HP := Lib.hid (ints_below HP.out hb9)
  have Kt0 := Lib.hid ((hb9.block _ zt0).trans Kt0.out)
  have zt0 := Nat.lt_of_lt_of_le zt0 hb9.size
  unfold aggOf
  have HA1 := Lib.hid hA
  have HK1 := Lib.hid hK
  clear hA hK AX
  clear hb9
  go_upto_region 7 with fail
  have kk := World.alloc_heap_new X9 (.cells #[.int .i64 xh.k, .string ⟨xh.l.toArray⟩, .slice aa1 xh.ats.length ca1, .int .i64 xh.n, .int .i64 xh.d, .string ⟨xh.x.toArray⟩, .slice ak1 xk.len ck1] 43)
  have hb10 : Below X9.heap.size X9 (X9.alloc (.cells #[.int .i64 xh.k, .string ⟨xh.l.toArray⟩, .slice aa1 xh.ats.length ca1, .int .i64 xh.n, .int .i64 xh.d, .string ⟨xh.x.toArray⟩, .slice ak1 xk.len ck1] 43)) := (Below.refl _ _).alloc (Nat.le_refl _) _
  have zt1 : X9.heap.size < (X9.alloc (.cells #[.int .i64 xh.k, .string ⟨xh.l.toArray⟩, .slice aa1 xh.ats.length ca1, .int .i64 xh.n, .int .i64 xh.d, .string ⟨xh.x.toArray⟩, .slice ak1 xk.len ck1] 43)).heap.size := by simp
  generalize X9.alloc (.cells #[.int .i64 xh.k, .string ⟨xh.l.toArray⟩, .slice aa1 xh.ats.length ca1, .int .i64 xh.n, .int .i64 xh.d, .string ⟨xh.x.toArray⟩, .slice ak1 xk.len ck1] 43) = X10 at *
  have BX10 : Below w.heap.size w X10 := BX9.trans (hb10.mono BX9.size)
  have Kt1 := Lib.hid kk
  clear kk
  have HA := Lib.hid (attrs_below HA.out hb10)
  have HK := Lib.hid (lies_below HK.out hb10)
  have HP := Lib.hid (ints_below HP.out hb10)
  have HA1 := Lib.hid (attrs_below HA1.out hb10)
  have HK1 := Lib.hid (lies_below HK1.out hb10)
  have Kt0 := Lib.hid ((hb10.block _ zt0).trans Kt0.out)
  have zt0 := Nat.lt_of_lt_of_le zt0 hb10.size
  obtain ⟨t1, ht⟩ : ∃ t, t = X9.heap.size := ⟨_, rfl⟩
  rw [← ht] at Kt1 zt1
  rw [← ht]
  clear ht hb10
  have d0 : X10.cell? ⟨t1, 0, none⟩ = some (.int .i64 xh.k) := cell_of_block Kt1.out rfl
  have d1 : X10.cell? ⟨t1, 1, none⟩ = some (.string ⟨xh.l.toArray⟩) := cell_of_block Kt1.out rfl
  have d2 : X10.cell? ⟨t1, 2, none⟩ = some (.slice aa1 xh.ats.length ca1) := cell_of_block Kt1.out rfl
  have d3 : X10.cell? ⟨t1, 3, none⟩ = some (.int .i64 xh.n) := cell_of_block Kt1.out rfl
  have d4 : X10.cell? ⟨t1, 4, none⟩ = some (.int .i64 xh.d) := cell_of_block Kt1.out rfl
  have d5 : X10.cell? ⟨t1, 5, none⟩ = some (.string ⟨xh.x.toArray⟩) := cell_of_block Kt1.out rfl
  have d6 : X10.cell? ⟨t1, 6, none⟩ = some (.slice ak1 xk.len ck1) := cell_of_block Kt1.out rfl
  have kk := World.alloc_heap_new X10 (.cells #[.int .i64 xh.k, .string ⟨xh.l.toArray⟩, .slice aa1 xh.ats.length ca1, .int .i64 xh.n, .int .i64 xh.d, .string ⟨xh.x.toArray⟩, .slice ak1 xk.len ck1] 43)
  have hb11 : Below X10.heap.size X10 (X10.alloc (.cells #[.int .i64 xh.k, .string ⟨xh.l.toArray⟩, .slice aa1 xh.ats.length ca1, .int .i64 xh.n, .int .i64 xh.d, .string ⟨xh.x.toArray⟩, .slice ak1 xk.len ck1] 43)) := (Below.refl _ _).alloc (Nat.le_refl _) _
  have HA := Lib.hid (attrs_below HA.out hb11)
  have HK := Lib.hid (lies_below HK.out hb11)
  have HP := Lib.hid (ints_below HP.out hb11)
  have HA1 := Lib.hid (attrs_below HA1.out hb11)
  have HK1 := Lib.hid (lies_below HK1.out hb11)
  have Kt0 := Lib.hid ((hb11.block _ zt0).trans Kt0.out)
  have zt0 := Nat.lt_of_lt_of_le zt0 hb11.size
  have Kt1 := Lib.hid ((hb11.block _ zt1).trans Kt1.out)
  have zt1 := Nat.lt_of_lt_of_le zt1 hb11.size
  have LT := Lib.hid (lies_one kk HA1.out HK1.out)
  have BX11 : Below w.heap.size w (X10.alloc (.cells #[.int .i64 xh.k, .string ⟨xh.l.toArray⟩, .slice aa1 xh.ats.length ca1, .int .i64 xh.n, .int .i64 xh.d, .string ⟨xh.x.toArray⟩, .slice ak1 xk.len ck1] 43)) := BX10.trans (hb11.mono BX10.size)
  clear kk hb11
  go_wp2_with fail
  generalize X10.alloc (.cells #[.int .i64 xh.k, .string ⟨xh.l.toArray⟩, .slice aa1 xh.ats.length ca1, .int .i64 xh.n, .int .i64 xh.d, .string ⟨xh.x.toArray⟩, .slice ak1 xk.len ck1] 43) = X11 at *
  clear d0 d1 d2 d3 d4 d5 d6

  refine (SW.out X11 _ LT.out).mono ?_
  rintro e X12 ⟨rfl, hb12⟩
  have BX12 : Below w.heap.size w X12 := BX11.trans (hb12.mono BX11.size)
  have HA := Lib.hid (attrs_below HA.out hb12)
  have HK := Lib.hid (lies_below HK.out hb12)
  have HP := Lib.hid (ints_below HP.out hb12)
  have HA1 := Lib.hid (attrs_below HA1.out hb12)
  have HK1 := Lib.hid (lies_below HK1.out hb12)
  have Kt0 := Lib.hid ((hb12.block _ zt0).trans Kt0.out)
  have zt0 := Nat.lt_of_lt_of_le zt0 hb12.size
  have Kt1 := Lib.hid ((hb12.block _ zt1).trans Kt1.out)
  have zt1 := Nat.lt_of_lt_of_le zt1 hb12.size
  clear LT
  clear hb12
  go_wp2_with fail
  refine (CU.out X12 BX12 _ HP.out).mono ?_
  rintro e X13 ⟨v4, rfl, hG, hb13⟩
  have BX13 : Below w.heap.size w X13 := BX12.trans (hb13.mono BX12.size)
  have HA := Lib.hid (attrs_below HA.out hb13)
  have HK := Lib.hid (lies_below HK.out hb13)
  have HP := Lib.hid (ints_below HP.out hb13)
  have HA1 := Lib.hid (attrs_below HA1.out hb13)
  have HK1 := Lib.hid (lies_below HK1.out hb13)
  have Kt0 := Lib.hid ((hb13.block _ zt0).trans Kt0.out)
  have zt0 := Nat.lt_of_lt_of_le zt0 hb13.size
  have Kt1 := Lib.hid ((hb13.block _ zt1).trans Kt1.out)
  have zt1 := Nat.lt_of_lt_of_le zt1 hb13.size
  have HL := Lib.hid (liesF_lies hG)
  obtain ⟨a4, c4, rfl⟩ := liesF_form hG
  clear hG CU
  clear hb13
  go_wp2_with fail
  refine (SL.out X13 _ HL.out).mono ?_
  rintro e X14 ⟨rfl, hb14⟩
  have BX14 : Below w.heap.size w X14 := BX13.trans (hb14.mono BX13.size)
  have HA := Lib.hid (attrs_below HA.out hb14)
  have HK := Lib.hid (lies_below HK.out hb14)
  have HP := Lib.hid (ints_below HP.out hb14)
  have HA1 := Lib.hid (attrs_below HA1.out hb14)
  have HK1 := Lib.hid (lies_below HK1.out hb14)
  have HL := Lib.hid (lies_below HL.out hb14)
  have Kt0 := Lib.hid ((hb14.block _ zt0).trans Kt0.out)
  have zt0 := Nat.lt_of_lt_of_le zt0 hb14.size
  have Kt1 := Lib.hid ((hb14.block _ zt1).trans Kt1.out)
  have zt1 := Nat.lt_of_lt_of_le zt1 hb14.size
  clear hb14
  have d0 : X14.cell? ⟨t1, 0, none⟩ = some (.int .i64 xh.k) := cell_of_block Kt1.out rfl
  have d1 : X14.cell? ⟨t1, 1, none⟩ = some (.string ⟨xh.l.toArray⟩) := cell_of_block Kt1.out rfl
  have d2 : X14.cell? ⟨t1, 2, none⟩ = some (.slice aa1 xh.ats.length ca1) := cell_of_block Kt1.out rfl
  have d3 : X14.cell? ⟨t1, 3, none⟩ = some (.int .i64 xh.n) := cell_of_block Kt1.out rfl
  have d4 : X14.cell? ⟨t1, 4, none⟩ = some (.int .i64 xh.d) := cell_of_block Kt1.out rfl
  have d5 : X14.cell? ⟨t1, 5, none⟩ = some (.string ⟨xh.x.toArray⟩) := cell_of_block Kt1.out rfl
  have d6 : X14.cell? ⟨t1, 6, none⟩ = some (.slice ak1 xk.len ck1) := cell_of_block Kt1.out rfl
  go_wp2_with fail
  refine (IB.out X14 _ _ _ _ _ _ HL.out HP.out HA1.out HK1.out).mono ?_
  rintro e X15 ⟨v5, rfl, hH, hb15⟩
  have BX15 : Below w.heap.size w X15 := BX14.trans (hb15.mono BX14.size)
  have HA := Lib.hid (attrs_below HA.out hb15)
  have HK := Lib.hid (lies_below HK.out hb15)
  have HP := Lib.hid (ints_below HP.out hb15)
  have HA1 := Lib.hid (attrs_below HA1.out hb15)
  have HK1 := Lib.hid (lies_below HK1.out hb15)
  have HL := Lib.hid (lies_below HL.out hb15)
  have Kt0 := Lib.hid ((hb15.block _ zt0).trans Kt0.out)
  have zt0 := Nat.lt_of_lt_of_le zt0 hb15.size
  have Kt1 := Lib.hid ((hb15.block _ zt1).trans Kt1.out)
  have zt1 := Nat.lt_of_lt_of_le zt1 hb15.size
  have HH := Lib.hid (liesF_lies hH)
  obtain ⟨a5, c5, rfl⟩ := liesF_form hH
  clear hH IB
  clear hb15
  clear d0 d1 d2 d3 d4 d5 d6
  clear Kt1 zt1
  clear HA1 HK1
  go_wp2_with fail
  refine (SR.out _ _ _ X15 HH.out (FL.out X15 BX15)).mono ?_
  rintro e X16 ⟨rfl, hb16⟩
  have BX16 : Below w.heap.size w X16 := BX15.trans (hb16.mono BX15.size)
  have HA := Lib.hid (attrs_below HA.out hb16)
  have HK := Lib.hid (lies_below HK.out hb16)
  have HP := Lib.hid (ints_below HP.out hb16)
  have HL := Lib.hid (lies_below HL.out hb16)
  have HH := Lib.hid (lies_below HH.out hb16)
  have Kt0 := Lib.hid ((hb16.block _ zt0).trans Kt0.out)
  have zt0 := Nat.lt_of_lt_of_le zt0 hb16.size
  clear hb16
  clear HH
  have d0 : X16.cell? ⟨t0, 0, none⟩ = some (.int .i64 th.k) := cell_of_block Kt0.out rfl
  have d1 : X16.cell? ⟨t0, 1, none⟩ = some (.string ⟨th.l.toArray⟩) := cell_of_block Kt0.out rfl
  have d2 : X16.cell? ⟨t0, 2, none⟩ = some (.slice aa0 th.ats.length ca0) := cell_of_block Kt0.out rfl
  have d3 : X16.cell? ⟨t0, 3, none⟩ = some (.int .i64 th.n) := cell_of_block Kt0.out rfl
  have d4 : X16.cell? ⟨t0, 4, none⟩ = some (.int .i64 th.d) := cell_of_block Kt0.out rfl
  have d5 : X16.cell? ⟨t0, 5, none⟩ = some (.string ⟨th.x.toArray⟩) := cell_of_block Kt0.out rfl
  have d6 : X16.cell? ⟨t0, 6, none⟩ = some (.slice ak0 tk.len ck0) := cell_of_block Kt0.out rfl
  go_wp2_with fail
  refine (IN.out X16 BX16 _ _ _ _ _ HP.out HA.out HK.out).mono ?_
  rintro e X17 ⟨v6, rfl, hG, hb17⟩
  have BX17 : Below w.heap.size w X17 := BX16.trans (hb17.mono BX16.size)
  have HA := Lib.hid (attrs_below HA.out hb17)
  have HK := Lib.hid (lies_below HK.out hb17)
  have HP := Lib.hid (ints_below HP.out hb17)
  have HL := Lib.hid (lies_below HL.out hb17)
  have Kt0 := Lib.hid ((hb17.block _ zt0).trans Kt0.out)
  have zt0 := Nat.lt_of_lt_of_le zt0 hb17.size
  have HS := Lib.hid (liesF_lies hG)
  obtain ⟨a6, c6, rfl⟩ := liesF_form hG
  clear hG IN
  clear hb17
  clear d0 d1 d2 d3 d4 d5 d6
  go_wp2_with fail
  refine (SS.out X17 _ HS.out).mono ?_
  rintro e X18 ⟨rfl, hb18⟩
  have BX18 : Below w.heap.size w X18 := BX17.trans (hb18.mono BX17.size)
  have HA := Lib.hid (attrs_below HA.out hb18)
  have HK := Lib.hid (lies_below HK.out hb18)
  have HP := Lib.hid (ints_below HP.out hb18)
  have HL := Lib.hid (lies_below HL.out hb18)
  have HS := Lib.hid (lies_below HS.out hb18)
  have Kt0 := Lib.hid ((hb18.block _ zt0).trans Kt0.out)
  have zt0 := Nat.lt_of_lt_of_le zt0 hb18.size
  clear hb18
  go_wp2_with fail
  refine (AG.out X18 _ _ HS.out HP.out).mono ?_
  rintro e X19 ⟨aa2, ca2, ak2, ck2, rfl, hA, hK, hb19⟩
  have BX19 : Below w.heap.size w X19 := BX18.trans (hb19.mono BX18.size)
  have HA := Lib.hid (attrs_below HA.out hb19)
  have HK := Lib.hid (lies_below HK.out hb19)
  have HP := Lib.hid (ints_below HP.out hb19)
  have HL := Lib.hid (lies_below HL.out hb19)
  have HS := Lib.hid (lies_below HS.out hb19)
  have Kt0 := Lib.hid ((hb19.block _ zt0).trans Kt0.out)
  have zt0 := Nat.lt_of_lt_of_le zt0 hb19.size
  unfold aggOf
  have HA2 := Lib.hid hA
  have HK2 := Lib.hid hK
  clear hA hK AG
  clear hb19
  go_upto_region 20 with fail
  have kk := World.alloc_heap_new X19 (.cells #[.int .i64 th.k, .string ⟨th.l.toArray⟩, .slice aa2 th.ats.length ca2, .int .i64 th.n, .int .i64 th.d, .string ⟨th.x.toArray⟩, .slice ak2 tk.len ck2] 43)
  have hb20 : Below X19.heap.size X19 (X19.alloc (.cells #[.int .i64 th.k, .string ⟨th.l.toArray⟩, .slice aa2 th.ats.length ca2, .int .i64 th.n, .int .i64 th.d, .string ⟨th.x.toArray⟩, .slice ak2 tk.len ck2] 43)) := (Below.refl _ _).alloc (Nat.le_refl _) _
  have zt2 : X19.heap.size < (X19.alloc (.cells #[.int .i64 th.k, .string ⟨th.l.toArray⟩, .slice aa2 th.ats.length ca2, .int .i64 th.n, .int .i64 th.d, .string ⟨th.x.toArray⟩, .slice ak2 tk.len ck2] 43)).heap.size := by simp
  generalize X19.alloc (.cells #[.int .i64 th.k, .string ⟨th.l.toArray⟩, .slice aa2 th.ats.length ca2, .int .i64 th.n, .int .i64 th.d, .string ⟨th.x.toArray⟩, .slice ak2 tk.len ck2] 43) = X20 at *
  have BX20 : Below w.heap.size w X20 := BX19.trans (hb20.mono BX19.size)
  have Kt2 := Lib.hid kk
  clear kk
  have HA := Lib.hid (attrs_below HA.out hb20)
  have HK := Lib.hid (lies_below HK.out hb20)
  have HP := Lib.hid (ints_below HP.out hb20)
  have HL := Lib.hid (lies_below HL.out hb20)
  have HS := Lib.hid (lies_below HS.out hb20)
  have HA2 := Lib.hid (attrs_below HA2.out hb20)
  have HK2 := Lib.hid (lies_below HK2.out hb20)
  have Kt0 := Lib.hid ((hb20.block _ zt0).trans Kt0.out)
  have zt0 := Nat.lt_of_lt_of_le zt0 hb20.size
  obtain ⟨t2, ht⟩ : ∃ t, t = X19.heap.size := ⟨_, rfl⟩
  rw [← ht] at Kt2 zt2
  rw [← ht]
  clear ht hb20
  go_wp2_with fail
  refine (CB.out X20 _ _ HS.out HP.out).mono ?_
  rintro e X21 ⟨v7, rfl, hG, hb21⟩
  have BX21 : Below w.heap.size w X21 := BX20.trans (hb21.mono BX20.size)
  have HA := Lib.hid (attrs_below HA.out hb21)
  have HK := Lib.hid (lies_below HK.out hb21)
  have HP := Lib.hid (ints_below HP.out hb21)
  have HL := Lib.hid (lies_below HL.out hb21)
  have HS := Lib.hid (lies_below HS.out hb21)
  have HA2 := Lib.hid (attrs_below HA2.out hb21)
  have HK2 := Lib.hid (lies_below HK2.out hb21)
  have Kt0 := Lib.hid ((hb21.block _ zt0).trans Kt0.out)
  have zt0 := Nat.lt_of_lt_of_le zt0 hb21.size
  have Kt2 := Lib.hid ((hb21.block _ zt2).trans Kt2.out)
  have zt2 := Nat.lt_of_lt_of_le zt2 hb21.size
  have HB := Lib.hid (liesF_lies hG)
  obtain ⟨a7, c7, rfl⟩ := liesF_form hG
  clear hG CB
  clear hb21
  clear HS HP
  go_wp2_with fail
  refine (CC.out X21 BX21 _ HL.out).mono ?_
  rintro e X22 ⟨v8, rfl, hG, hb22⟩
  have BX22 : Below w.heap.size w X22 := BX21.trans (hb22.mono BX21.size)
  have HA := Lib.hid (attrs_below HA.out hb22)
  have HK := Lib.hid (lies_below HK.out hb22)
  have HL := Lib.hid (lies_below HL.out hb22)
  have HA2 := Lib.hid (attrs_below HA2.out hb22)
  have HK2 := Lib.hid (lies_below HK2.out hb22)
  have HB := Lib.hid (lies_below HB.out hb22)
  have Kt0 := Lib.hid ((hb22.block _ zt0).trans Kt0.out)
  have zt0 := Nat.lt_of_lt_of_le zt0 hb22.size
  have Kt2 := Lib.hid ((hb22.block _ zt2).trans Kt2.out)
  have zt2 := Nat.lt_of_lt_of_le zt2 hb22.size
  have HC := Lib.hid (liesF_lies hG)
  clear hG CC
  obtain ⟨ad, c8, rfl, hc8, hm8, l1, l2⟩ := lies_split HC.out hfl
  have HC1 := Lib.hid l1
  have HC2 := Lib.hid l2
  clear l1 l2 HC
  clear hb22
  have d0 : X22.cell? ⟨t2, 0, none⟩ = some (.int .i64 th.k) := cell_of_block Kt2.out rfl
  have d1 : X22.cell? ⟨t2, 1, none⟩ = some (.string ⟨th.l.toArray⟩) := cell_of_block Kt2.out rfl
  have d2 : X22.cell? ⟨t2, 2, none⟩ = some (.slice aa2 th.ats.length ca2) := cell_of_block Kt2.out rfl
  have d3 : X22.cell? ⟨t2, 3, none⟩ = some (.int .i64 th.n) := cell_of_block Kt2.out rfl
  have d4 : X22.cell? ⟨t2, 4, none⟩ = some (.int .i64 th.d) := cell_of_block Kt2.out rfl
  have d5 : X22.cell? ⟨t2, 5, none⟩ = some (.string ⟨th.x.toArray⟩) := cell_of_block Kt2.out rfl
  have d6 : X22.cell? ⟨t2, 6, none⟩ = some (.slice ak2 tk.len ck2) := cell_of_block Kt2.out rfl
  have c0 : X22.cell? ⟨t0, 0, none⟩ = some (.int .i64 th.k) := cell_of_block Kt0.out rfl
  have c1 : X22.cell? ⟨t0, 1, none⟩ = some (.string ⟨th.l.toArray⟩) := cell_of_block Kt0.out rfl
  have c2 : X22.cell? ⟨t0, 2, none⟩ = some (.slice aa0 th.ats.length ca0) := cell_of_block Kt0.out rfl
  have c3 : X22.cell? ⟨t0, 3, none⟩ = some (.int .i64 th.n) := cell_of_block Kt0.out rfl
  have c4 : X22.cell? ⟨t0, 4, none⟩ = some (.int .i64 th.d) := cell_of_block Kt0.out rfl
  have c5 : X22.cell? ⟨t0, 5, none⟩ = some (.string ⟨th.x.toArray⟩) := cell_of_block Kt0.out rfl
  have c6 : X22.cell? ⟨t0, 6, none⟩ = some (.slice ak0 tk.len ck0) := cell_of_block Kt0.out rfl
  have k1 : (((f.size + (tk.size + 1) : Nat) : Int) != ((f.size : Int) + ((tk.size : Int) + 1))) = false := by simp
  have k8 := World.alloc_heap_new X22 (.cells #[.int .i64 th.k, .string ⟨th.l.toArray⟩, .slice aa2 th.ats.length ca2, .int .i64 th.n, .int .i64 th.d, .string ⟨th.x.toArray⟩, .slice ak2 tk.len ck2] 43)
  have ba8 : Below X22.heap.size X22 (X22.alloc (.cells #[.int .i64 th.k, .string ⟨th.l.toArray⟩, .slice aa2 th.ats.length ca2, .int .i64 th.n, .int .i64 th.d, .string ⟨th.x.toArray⟩, .slice ak2 tk.len ck2] 43)) := (Below.refl _ _).alloc (Nat.le_refl _) _
  have e8 : (X22.alloc (.cells #[.int .i64 th.k, .string ⟨th.l.toArray⟩, .slice aa2 th.ats.length ca2, .int .i64 th.n, .int .i64 th.d, .string ⟨th.x.toArray⟩, .slice ak2 tk.len ck2] 43)).heap.size = X22.heap.size + 1 := by simp
  have ba9 : Below (X22.alloc (.cells #[.int .i64 th.k, .string ⟨th.l.toArray⟩, .slice aa2 th.ats.length ca2, .int .i64 th.n, .int .i64 th.d, .string ⟨th.x.toArray⟩, .slice ak2 tk.len ck2] 43)).heap.size (X22.alloc (.cells #[.int .i64 th.k, .string ⟨th.l.toArray⟩, .slice aa2 th.ats.length ca2, .int .i64 th.n, .int .i64 th.d, .string ⟨th.x.toArray⟩, .slice ak2 tk.len ck2] 43)) ((X22.alloc (.cells #[.int .i64 th.k, .string ⟨th.l.toArray⟩, .slice aa2 th.ats.length ca2, .int .i64 th.n, .int .i64 th.d, .string ⟨th.x.toArray⟩, .slice ak2 tk.len ck2] 43)).alloc (.cells #[.int .i64 th.k, .string ⟨th.l.toArray⟩, .slice aa0 th.ats.length ca0, .int .i64 th.n, .int .i64 th.d, .string ⟨th.x.toArray⟩, .slice ak0 tk.len ck0] 43)) := (Below.refl _ _).alloc (Nat.le_refl _) _
  have k9 := World.alloc_heap_new (X22.alloc (.cells #[.int .i64 th.k, .string ⟨th.l.toArray⟩, .slice aa2 th.ats.length ca2, .int .i64 th.n, .int .i64 th.d, .string ⟨th.x.toArray⟩, .slice ak2 tk.len ck2] 43)) (.cells #[.int .i64 th.k, .string ⟨th.l.toArray⟩, .slice aa0 th.ats.length ca0, .int .i64 th.n, .int .i64 th.d, .string ⟨th.x.toArray⟩, .slice ak0 tk.len ck0] 43)
  have L1 := Lib.hid (lies_below (lies_one k8 (attrs_below HA2.out ba8) (lies_below HK2.out ba8)) ba9)
  have hb24 := ba8.trans (ba9.mono (by omega))
  have BX24 : Below w.heap.size w ((X22.alloc (.cells #[.int .i64 th.k, .string ⟨th.l.toArray⟩, .slice aa2 th.ats.length ca2, .int .i64 th.n, .int .i64 th.d, .string ⟨th.x.toArray⟩, .slice ak2 tk.len ck2] 43)).alloc (.cells #[.int .i64 th.k, .string ⟨th.l.toArray⟩, .slice aa0 th.ats.length ca0, .int .i64 th.n, .int .i64 th.d, .string ⟨th.x.toArray⟩, .slice ak0 tk.len ck0] 43)) := BX22.trans (hb24.mono BX22.size)
  have L2 := Lib.hid (lies_one k9 (attrs_below HA.out hb24) (lies_below HK.out hb24))
  rw [e8] at L2
  have HA := Lib.hid (attrs_below HA.out hb24)
  have HK := Lib.hid (lies_below HK.out hb24)
  have HL := Lib.hid (lies_below HL.out hb24)
  have HA2 := Lib.hid (attrs_below HA2.out hb24)
  have HK2 := Lib.hid (lies_below HK2.out hb24)
  have HB := Lib.hid (lies_below HB.out hb24)
  have HC1 := Lib.hid (lies_below HC1.out hb24)
  have HC2 := Lib.hid (lies_below HC2.out hb24)
  have Kt0 := Lib.hid ((hb24.block _ zt0).trans Kt0.out)
  have zt0 := Nat.lt_of_lt_of_le zt0 hb24.size
  have Kt2 := Lib.hid ((hb24.block _ zt2).trans Kt2.out)
  have zt2 := Nat.lt_of_lt_of_le zt2 hb24.size
  clear k8 k9 ba8 ba9 e8 hb24
  go_wp2_with fail
  generalize (X22.alloc (.cells #[.int .i64 th.k, .string ⟨th.l.toArray⟩, .slice aa2 th.ats.length ca2, .int .i64 th.n, .int .i64 th.d, .string ⟨th.x.toArray⟩, .slice ak2 tk.len ck2] 43)).alloc (.cells #[.int .i64 th.k, .string ⟨th.l.toArray⟩, .slice aa0 th.ats.length ca0, .int .i64 th.n, .int .i64 th.d, .string ⟨th.x.toArray⟩, .slice ak0 tk.len ck0] 43) = X24 at *
  clear d0 d1 d2 d3 d4 d5 d6
  clear c0 c1 c2 c3 c4 c5 c6

  refine (SR.out _ _ _ X24 L1.out L2.out).mono ?_
  rintro e X25 ⟨rfl, hb25⟩
  have BX25 : Below w.heap.size w X25 := BX24.trans (hb25.mono BX24.size)
  have HA := Lib.hid (attrs_below HA.out hb25)
  have HK := Lib.hid (lies_below HK.out hb25)
  have HL := Lib.hid (lies_below HL.out hb25)
  have HA2 := Lib.hid (attrs_below HA2.out hb25)
  have HK2 := Lib.hid (lies_below HK2.out hb25)
  have HB := Lib.hid (lies_below HB.out hb25)
  have HC1 := Lib.hid (lies_below HC1.out hb25)
  have HC2 := Lib.hid (lies_below HC2.out hb25)
  have Kt0 := Lib.hid ((hb25.block _ zt0).trans Kt0.out)
  have zt0 := Nat.lt_of_lt_of_le zt0 hb25.size
  have Kt2 := Lib.hid ((hb25.block _ zt2).trans Kt2.out)
  have zt2 := Nat.lt_of_lt_of_le zt2 hb25.size
  clear L1 L2
  clear hb25
  clear Kt2 zt2 Kt0 zt0
  clear HA2 HK2 HA HK
  go_wp2_with fail
  refine (SR.out _ _ _ X25 HB.out (FL.out X25 BX25)).mono ?_
  rintro e X26 ⟨rfl, hb26⟩
  have BX26 : Below w.heap.size w X26 := BX25.trans (hb26.mono BX25.size)
  have HL := Lib.hid (lies_below HL.out hb26)
  have HB := Lib.hid (lies_below HB.out hb26)
  have HC1 := Lib.hid (lies_below HC1.out hb26)
  have HC2 := Lib.hid (lies_below HC2.out hb26)
  clear hb26
  clear HB
  go_upto_region 24 with fail
  have FL2 := Lib.hid (FL.out X26 BX26)
  clear m1 m2 m3 n1 k1 eZ FL
  obtain ⟨NB, hNB⟩ : ∃ n, f.len + L.len = n := ⟨_, rfl⟩
  rw [hNB]
  have e25 : ((NB : Int) == (f.len : Int) + (L.len : Int)) = true := by simp; omega
  have e26 : NB - f.len = L.len := by omega
  have dk : decide (f.len ≤ c8) = true := by simp; omega
  have hm9 : NB ≤ c8 := by omega
  have hm10 : f.len ≤ NB := by omega
  have hm11 : NB ≤ 2000000000000 := by omega
  clear hNB hc8 hm8
  go_wp2_with fail
  refine (SR.out _ _ _ X26 HC1.out FL2.out).mono ?_
  rintro e X27 ⟨rfl, hb27⟩
  have BX27 : Below w.heap.size w X27 := BX26.trans (hb27.mono BX26.size)
  have HL := Lib.hid (lies_below HL.out hb27)
  have HC1 := Lib.hid (lies_below HC1.out hb27)
  have HC2 := Lib.hid (lies_below HC2.out hb27)
  have FL2 := Lib.hid (lies_below FL2.out hb27)
  clear hb27
  have HC2n := Lib.hid (show ¬ c8 = f.len → Lies X27 (.slice (some (ad.add (f.len * 7))) L.len (c8 - f.len)) L from fun h => by
    have := HC2.out
    rwa [if_neg h] at this)
  have HC2p := Lib.hid (show c8 = f.len → ∀ a' c', Lies X27 (.slice a' L.len c') L from fun h a' c' => by
    have h0 : L.len = 0 := by omega
    rw [Fo.len_nil h0]
    exact .inl ⟨_, _, rfl, rfl⟩)
  clear HC1 HC2 FL2
  by_cases hcl : c8 = f.len
  · have H := Lib.hid (HC2p.out hcl)
    clear HC2n HC2p
    go_wp2_with fail
    refine (SR.out _ _ _ X27 (H.out _ _) HL.out).mono ?_
    rintro e X28 ⟨rfl, hb28⟩
    have BX28 : Below w.heap.size w X28 := BX27.trans (hb28.mono BX27.size)
    clear hb28
    go_wp2_with fail
    refine (GR.out _).mono ?_
    rintro e X29 ⟨rfl, hb29⟩
    have BX29 : Below w.heap.size w X29 := BX28.trans (hb29.mono BX28.size)
    go_wp2_with fail
    go_ret
    exact ⟨rfl, BX29⟩
  · have H := Lib.hid (HC2n.out hcl)
    clear HC2n HC2p
    go_wp2_with fail
    refine (SR.out _ _ _ X27 H.out HL.out).mono ?_
    rintro e X28 ⟨rfl, hb28⟩
    have BX28 : Below w.heap.size w X28 := BX27.trans (hb28.mono BX27.size)
    clear hb28
    go_wp2_with fail
    refine (GR.out _).mono ?_
    rintro e X29 ⟨rfl, hb29⟩
    have BX29 : Below w.heap.size w X29 := BX28.trans (hb29.mono BX28.size)
    go_wp2_with fail
    go_ret
    exact ⟨rfl, BX29⟩


theorem tcuts_law (f : Fo) (v : Value) (th : Hd) (tk : Fo) (va vk : Value) (a : Int) (w : World) (hl : Lies w v f) (ha : AttrsLie w va th.ats) (hk : Lies w vk tk) (h1 : 0 ≤ a ∧ a ≤ 65535) :
    Calls Tryz.prog 9 #[v, treeA th va vk, .int .u16 a] w fun e w' => e = .returned (.bool true) ∧ Below w.heap.size w w' := by
  cases hf : fitB f with
  | false => exact tcuts_unfit1 f v th tk va vk a w hl ha hk hf
  | true =>
    cases hf2 : fitB (.cons th tk .nil) with
    | false => exact tcuts_unfit2 f v th tk va vk a w hl ha hk hf hf2
    | true =>
      by_cases hlen : f.len = 0
      · exact tcuts_none f v th tk va vk a w hl ha hk hf hf2 hlen
      · obtain ⟨m, rfl⟩ : ∃ m : Nat, a = (m : Int) := ⟨a.toNat, by omega⟩
        have hn := len_size f
        have hka : Int.tmod (m : Int) (f.size : Int) = ((m % f.size : Nat) : Int) := rfl
        have hlt := Nat.mod_lt m (show 0 < f.size by omega)
        have len := seqAt_len f [] 0
        have hx := List.getElem?_eq_getElem (l := seqAt [] 0 f) (i := m % f.size) (by omega)
        generalize (seqAt [] 0 f)[m % f.size] = x at *
        obtain ⟨q, i, g, ep, hg, hn⟩ := vis_split (List.mem_of_getElem? hx)
        obtain ⟨⟨pc1, zL, -, -⟩, pi1, -⟩ := cut_vals (fit_parts hf).2 (fit_parts hf2).2 hg hn
        rw [← ep] at pc1 pi1
        rcases in_bnd (changeAt f q (spl g i 0 (.cons th tk .nil))) with ⟨-, h⟩ | h | h
        · have hbo : (insV f (pathInts x.p) (.cons th tk .nil)).2 = 0 := by rw [pi1, h]
          rcases app_bnd (fit_parts hf).2 zL with ⟨hcc, -⟩ | hcc
          · exact tcuts_ok f v th tk va vk m w hl ha hk _ x hf hf2 hlen (by omega) hx hka hbo (by rw [pc1]; exact hcc)
          · exact tcuts_big f v th tk va vk m w hl ha hk _ x hf hf2 hlen (by omega) hx hka hbo (by rw [pc1]; exact hcc)
        · exact tcuts_err4 f v th tk va vk m w hl ha hk _ x hf hf2 hlen (by omega) hx hka (by rw [pi1, h])
        · exact tcuts_err8 f v th tk va vk m w hl ha hk _ x hf hf2 hlen (by omega) hx hka (by rw [pi1, h])
end Go.Proofs.YtcgedpfolloinaaGreat
