/- What the proof of PrfTreeEdits rests on, part 14 of 14. -/
import Derived.Deep.Slices
import Derived.Deep.SlicePairs
import Derived.ChangeArms
import Derived.SizedLaws
import Derived.Test.YtcgedpfolloinaaGreatPPrfTreeEdits13
namespace Go.Proofs.YtcgedpfolloinaaGreat
open Go.RowKit

set_option maxRecDepth 100000 in
set_option maxHeartbeats 8000000 in
theorem edits_g1 (f : Fo) (v : Value) (g : Fo) (u : Value) (p : List Int) (pv : Value) (th : Hd) (tk : Fo) (va vk : Value) (h : Hd) (vh : Value) (w : World) (hl : Lies w v f) (hg : Lies w u g) (hp : IntsLie w pv p) (ha : AttrsLie w va th.ats) (hk : Lies w vk tk) (hh : AttrsLie w vh h.ats) (h1 : great f = true) :
    Calls Tryz.prog 6 #[v, u, pv, treeA th va vk, hdA h vh] w fun e w' => e = .returned (.bool true) ∧ Below w.heap.size w w' := by
  have GR := Lib.hid (fun w => grown_any w)
  have GF := Lib.hid (fun W (hW : Below w.heap.size w W) => great_any f.size f v W (Nat.le_refl _) (lies_below hl hW))
  have GG := Lib.hid (fun W (hW : Below w.heap.size w W) => great_any g.size g u W (Nat.le_refl _) (lies_below hg hW))
  have GT := Lib.hid (fun W y (hy : Lies W y (.cons th tk .nil)) => great_any (Fo.cons th tk .nil).size (.cons th tk .nil) y W (Nat.le_refl _) hy)
  have GH := Lib.hid (fun W (hW : Below w.heap.size w W) => greatHead_any h vh W (attrs_below hh hW))
  have HA := Lib.hid ha
  have HK := Lib.hid hk
  rw [h1] at GF
  obtain ⟨av, cv, rfl⟩ := lies_form hl
  obtain ⟨au, cu, rfl⟩ := lies_form hg
  obtain ⟨pa, pc, rfl⟩ := ints_form hp
  obtain ⟨aa0, ca0, rfl⟩ := attrs_form ha
  obtain ⟨ak0, ck0, rfl⟩ := lies_form hk
  obtain ⟨aah, cah, rfl⟩ := attrs_form hh
  clear hl hg hp ha hk hh h1
  unfold treeA hdA
  go_enter Tryz.func6, Tryz.ntmps6
  go_upto_region 1 with fail
  have k8 := World.alloc_heap_new w (.cells #[.int .i64 th.k, .string ⟨th.l.toArray⟩, .slice aa0 th.ats.length ca0, .int .i64 th.n, .int .i64 th.d, .string ⟨th.x.toArray⟩, .slice ak0 tk.len ck0] 43)
  have b8 : Below w.heap.size w (w.alloc (.cells #[.int .i64 th.k, .string ⟨th.l.toArray⟩, .slice aa0 th.ats.length ca0, .int .i64 th.n, .int .i64 th.d, .string ⟨th.x.toArray⟩, .slice ak0 tk.len ck0] 43)) := (Below.refl _ _).alloc (Nat.le_refl _) _
  have e8 : (w.alloc (.cells #[.int .i64 th.k, .string ⟨th.l.toArray⟩, .slice aa0 th.ats.length ca0, .int .i64 th.n, .int .i64 th.d, .string ⟨th.x.toArray⟩, .slice ak0 tk.len ck0] 43)).heap.size = w.heap.size + 1 := by simp
  have k9 := World.alloc_heap_new (w.alloc (.cells #[.int .i64 th.k, .string ⟨th.l.toArray⟩, .slice aa0 th.ats.length ca0, .int .i64 th.n, .int .i64 th.d, .string ⟨th.x.toArray⟩, .slice ak0 tk.len ck0] 43)) (.cells #[.int .i64 h.k, .string ⟨h.l.toArray⟩, .slice aah h.ats.length cah, .int .i64 h.n, .int .i64 h.d, .string ⟨h.x.toArray⟩] 27)
  have b9 : Below (w.alloc (.cells #[.int .i64 th.k, .string ⟨th.l.toArray⟩, .slice aa0 th.ats.length ca0, .int .i64 th.n, .int .i64 th.d, .string ⟨th.x.toArray⟩, .slice ak0 tk.len ck0] 43)).heap.size (w.alloc (.cells #[.int .i64 th.k, .string ⟨th.l.toArray⟩, .slice aa0 th.ats.length ca0, .int .i64 th.n, .int .i64 th.d, .string ⟨th.x.toArray⟩, .slice ak0 tk.len ck0] 43)) ((w.alloc (.cells #[.int .i64 th.k, .string ⟨th.l.toArray⟩, .slice aa0 th.ats.length ca0, .int .i64 th.n, .int .i64 th.d, .string ⟨th.x.toArray⟩, .slice ak0 tk.len ck0] 43)).alloc (.cells #[.int .i64 h.k, .string ⟨h.l.toArray⟩, .slice aah h.ats.length cah, .int .i64 h.n, .int .i64 h.d, .string ⟨h.x.toArray⟩] 27)) := (Below.refl _ _).alloc (Nat.le_refl _) _
  have BX2 : Below w.heap.size w ((w.alloc (.cells #[.int .i64 th.k, .string ⟨th.l.toArray⟩, .slice aa0 th.ats.length ca0, .int .i64 th.n, .int .i64 th.d, .string ⟨th.x.toArray⟩, .slice ak0 tk.len ck0] 43)).alloc (.cells #[.int .i64 h.k, .string ⟨h.l.toArray⟩, .slice aah h.ats.length cah, .int .i64 h.n, .int .i64 h.d, .string ⟨h.x.toArray⟩] 27)) := b8.trans (b9.mono (by omega))
  have zt0 : w.heap.size < ((w.alloc (.cells #[.int .i64 th.k, .string ⟨th.l.toArray⟩, .slice aa0 th.ats.length ca0, .int .i64 th.n, .int .i64 th.d, .string ⟨th.x.toArray⟩, .slice ak0 tk.len ck0] 43)).alloc (.cells #[.int .i64 h.k, .string ⟨h.l.toArray⟩, .slice aah h.ats.length cah, .int .i64 h.n, .int .i64 h.d, .string ⟨h.x.toArray⟩] 27)).heap.size := by simp; omega
  have ztH : w.heap.size + 1 < ((w.alloc (.cells #[.int .i64 th.k, .string ⟨th.l.toArray⟩, .slice aa0 th.ats.length ca0, .int .i64 th.n, .int .i64 th.d, .string ⟨th.x.toArray⟩, .slice ak0 tk.len ck0] 43)).alloc (.cells #[.int .i64 h.k, .string ⟨h.l.toArray⟩, .slice aah h.ats.length cah, .int .i64 h.n, .int .i64 h.d, .string ⟨h.x.toArray⟩] 27)).heap.size := by simp
  have Kt0 := Lib.hid ((b9.block w.heap.size (by omega)).trans k8)
  rw [e8] at k9
  have KtH := Lib.hid k9
  have HA := Lib.hid (attrs_below HA.out BX2)
  have HK := Lib.hid (lies_below HK.out BX2)
  clear k8 k9 b8 b9 e8
  generalize (w.alloc (.cells #[.int .i64 th.k, .string ⟨th.l.toArray⟩, .slice aa0 th.ats.length ca0, .int .i64 th.n, .int .i64 th.d, .string ⟨th.x.toArray⟩, .slice ak0 tk.len ck0] 43)).alloc (.cells #[.int .i64 h.k, .string ⟨h.l.toArray⟩, .slice aah h.ats.length cah, .int .i64 h.n, .int .i64 h.d, .string ⟨h.x.toArray⟩] 27) = X2 at *
  obtain ⟨t0, ht0⟩ : ∃ t, t = w.heap.size := ⟨_, rfl⟩
  obtain ⟨tH, htH⟩ : ∃ t, t = w.heap.size + 1 := ⟨_, rfl⟩
  rw [← ht0] at Kt0 zt0
  rw [← htH] at KtH ztH
  have hpp : (Value.pointer (some ⟨w.heap.size, 0, none⟩)) = .pointer (some ⟨t0, 0, none⟩) := by rw [ht0]
  have hpq : (Value.pointer (some ⟨w.heap.size + 1, 0, none⟩)) = .pointer (some ⟨tH, 0, none⟩) := by rw [htH]
  rw [hpp, hpq]
  clear hpp hpq ht0 htH
  go_wp2_with fail
  refine (GF.out X2 BX2).mono ?_
  rintro e X3 ⟨rfl, hb3⟩
  have BX3 : Below w.heap.size w X3 := BX2.trans (hb3.mono BX2.size)
  have HA := Lib.hid (attrs_below HA.out hb3)
  have HK := Lib.hid (lies_below HK.out hb3)
  have Kt0 := Lib.hid ((hb3.block _ zt0).trans Kt0.out)
  have zt0 := Nat.lt_of_lt_of_le zt0 hb3.size
  have KtH := Lib.hid ((hb3.block _ ztH).trans KtH.out)
  have ztH := Nat.lt_of_lt_of_le ztH hb3.size
  clear hb3
  go_wp2_with fail
  refine (GR.out _).mono ?_
  rintro e X4 ⟨rfl, hb4⟩
  have BX4 : Below w.heap.size w X4 := BX3.trans (hb4.mono BX3.size)
  have HA := Lib.hid (attrs_below HA.out hb4)
  have HK := Lib.hid (lies_below HK.out hb4)
  have Kt0 := Lib.hid ((hb4.block _ zt0).trans Kt0.out)
  have zt0 := Nat.lt_of_lt_of_le zt0 hb4.size
  have KtH := Lib.hid ((hb4.block _ ztH).trans KtH.out)
  have ztH := Nat.lt_of_lt_of_le ztH hb4.size
  clear hb4
  go_wp2_with fail
  go_ret
  exact ⟨rfl, BX4⟩

set_option maxRecDepth 100000 in
set_option maxHeartbeats 8000000 in
theorem edits_g2 (f : Fo) (v : Value) (g : Fo) (u : Value) (p : List Int) (pv : Value) (th : Hd) (tk : Fo) (va vk : Value) (h : Hd) (vh : Value) (w : World) (hl : Lies w v f) (hg : Lies w u g) (hp : IntsLie w pv p) (ha : AttrsLie w va th.ats) (hk : Lies w vk tk) (hh : AttrsLie w vh h.ats) (h1 : great f = false) (h2 : great g = true) :
    Calls Tryz.prog 6 #[v, u, pv, treeA th va vk, hdA h vh] w fun e w' => e = .returned (.bool true) ∧ Below w.heap.size w w' := by
  have GR := Lib.hid (fun w => grown_any w)
  have GF := Lib.hid (fun W (hW : Below w.heap.size w W) => great_any f.size f v W (Nat.le_refl _) (lies_below hl hW))
  have GG := Lib.hid (fun W (hW : Below w.heap.size w W) => great_any g.size g u W (Nat.le_refl _) (lies_below hg hW))
  have GT := Lib.hid (fun W y (hy : Lies W y (.cons th tk .nil)) => great_any (Fo.cons th tk .nil).size (.cons th tk .nil) y W (Nat.le_refl _) hy)
  have GH := Lib.hid (fun W (hW : Below w.heap.size w W) => greatHead_any h vh W (attrs_below hh hW))
  have HA := Lib.hid ha
  have HK := Lib.hid hk
  rw [h1] at GF
  rw [h2] at GG
  obtain ⟨av, cv, rfl⟩ := lies_form hl
  obtain ⟨au, cu, rfl⟩ := lies_form hg
  obtain ⟨pa, pc, rfl⟩ := ints_form hp
  obtain ⟨aa0, ca0, rfl⟩ := attrs_form ha
  obtain ⟨ak0, ck0, rfl⟩ := lies_form hk
  obtain ⟨aah, cah, rfl⟩ := attrs_form hh
  clear hl hg hp ha hk hh h1 h2
  unfold treeA hdA
  go_enter Tryz.func6, Tryz.ntmps6
  go_upto_region 1 with fail
  have k8 := World.alloc_heap_new w (.cells #[.int .i64 th.k, .string ⟨th.l.toArray⟩, .slice aa0 th.ats.length ca0, .int .i64 th.n, .int .i64 th.d, .string ⟨th.x.toArray⟩, .slice ak0 tk.len ck0] 43)
  have b8 : Below w.heap.size w (w.alloc (.cells #[.int .i64 th.k, .string ⟨th.l.toArray⟩, .slice aa0 th.ats.length ca0, .int .i64 th.n, .int .i64 th.d, .string ⟨th.x.toArray⟩, .slice ak0 tk.len ck0] 43)) := (Below.refl _ _).alloc (Nat.le_refl _) _
  have e8 : (w.alloc (.cells #[.int .i64 th.k, .string ⟨th.l.toArray⟩, .slice aa0 th.ats.length ca0, .int .i64 th.n, .int .i64 th.d, .string ⟨th.x.toArray⟩, .slice ak0 tk.len ck0] 43)).heap.size = w.heap.size + 1 := by simp
  have k9 := World.alloc_heap_new (w.alloc (.cells #[.int .i64 th.k, .string ⟨th.l.toArray⟩, .slice aa0 th.ats.length ca0, .int .i64 th.n, .int .i64 th.d, .string ⟨th.x.toArray⟩, .slice ak0 tk.len ck0] 43)) (.cells #[.int .i64 h.k, .string ⟨h.l.toArray⟩, .slice aah h.ats.length cah, .int .i64 h.n, .int .i64 h.d, .string ⟨h.x.toArray⟩] 27)
  have b9 : Below (w.alloc (.cells #[.int .i64 th.k, .string ⟨th.l.toArray⟩, .slice aa0 th.ats.length ca0, .int .i64 th.n, .int .i64 th.d, .string ⟨th.x.toArray⟩, .slice ak0 tk.len ck0] 43)).heap.size (w.alloc (.cells #[.int .i64 th.k, .string ⟨th.l.toArray⟩, .slice aa0 th.ats.length ca0, .int .i64 th.n, .int .i64 th.d, .string ⟨th.x.toArray⟩, .slice ak0 tk.len ck0] 43)) ((w.alloc (.cells #[.int .i64 th.k, .string ⟨th.l.toArray⟩, .slice aa0 th.ats.length ca0, .int .i64 th.n, .int .i64 th.d, .string ⟨th.x.toArray⟩, .slice ak0 tk.len ck0] 43)).alloc (.cells #[.int .i64 h.k, .string ⟨h.l.toArray⟩, .slice aah h.ats.length cah, .int .i64 h.n, .int .i64 h.d, .string ⟨h.x.toArray⟩] 27)) := (Below.refl _ _).alloc (Nat.le_refl _) _
  have BX2 : Below w.heap.size w ((w.alloc (.cells #[.int .i64 th.k, .string ⟨th.l.toArray⟩, .slice aa0 th.ats.length ca0, .int .i64 th.n, .int .i64 th.d, .string ⟨th.x.toArray⟩, .slice ak0 tk.len ck0] 43)).alloc (.cells #[.int .i64 h.k, .string ⟨h.l.toArray⟩, .slice aah h.ats.length cah, .int .i64 h.n, .int .i64 h.d, .string ⟨h.x.toArray⟩] 27)) := b8.trans (b9.mono (by omega))
  have zt0 : w.heap.size < ((w.alloc (.cells #[.int .i64 th.k, .string ⟨th.l.toArray⟩, .slice aa0 th.ats.length ca0, .int .i64 th.n, .int .i64 th.d, .string ⟨th.x.toArray⟩, .slice ak0 tk.len ck0] 43)).alloc (.cells #[.int .i64 h.k, .string ⟨h.l.toArray⟩, .slice aah h.ats.length cah, .int .i64 h.n, .int .i64 h.d, .string ⟨h.x.toArray⟩] 27)).heap.size := by simp; omega
  have ztH : w.heap.size + 1 < ((w.alloc (.cells #[.int .i64 th.k, .string ⟨th.l.toArray⟩, .slice aa0 th.ats.length ca0, .int .i64 th.n, .int .i64 th.d, .string ⟨th.x.toArray⟩, .slice ak0 tk.len ck0] 43)).alloc (.cells #[.int .i64 h.k, .string ⟨h.l.toArray⟩, .slice aah h.ats.length cah, .int .i64 h.n, .int .i64 h.d, .string ⟨h.x.toArray⟩] 27)).heap.size := by simp
  have Kt0 := Lib.hid ((b9.block w.heap.size (by omega)).trans k8)
  rw [e8] at k9
  have KtH := Lib.hid k9
  have HA := Lib.hid (attrs_below HA.out BX2)
  have HK := Lib.hid (lies_below HK.out BX2)
  clear k8 k9 b8 b9 e8
  generalize (w.alloc (.cells #[.int .i64 th.k, .string ⟨th.l.toArray⟩, .slice aa0 th.ats.length ca0, .int .i64 th.n, .int .i64 th.d, .string ⟨th.x.toArray⟩, .slice ak0 tk.len ck0] 43)).alloc (.cells #[.int .i64 h.k, .string ⟨h.l.toArray⟩, .slice aah h.ats.length cah, .int .i64 h.n, .int .i64 h.d, .string ⟨h.x.toArray⟩] 27) = X2 at *
  obtain ⟨t0, ht0⟩ : ∃ t, t = w.heap.size := ⟨_, rfl⟩
  obtain ⟨tH, htH⟩ : ∃ t, t = w.heap.size + 1 := ⟨_, rfl⟩
  rw [← ht0] at Kt0 zt0
  rw [← htH] at KtH ztH
  have hpp : (Value.pointer (some ⟨w.heap.size, 0, none⟩)) = .pointer (some ⟨t0, 0, none⟩) := by rw [ht0]
  have hpq : (Value.pointer (some ⟨w.heap.size + 1, 0, none⟩)) = .pointer (some ⟨tH, 0, none⟩) := by rw [htH]
  rw [hpp, hpq]
  clear hpp hpq ht0 htH
  go_wp2_with fail
  refine (GF.out X2 BX2).mono ?_
  rintro e X3 ⟨rfl, hb3⟩
  have BX3 : Below w.heap.size w X3 := BX2.trans (hb3.mono BX2.size)
  have HA := Lib.hid (attrs_below HA.out hb3)
  have HK := Lib.hid (lies_below HK.out hb3)
  have Kt0 := Lib.hid ((hb3.block _ zt0).trans Kt0.out)
  have zt0 := Nat.lt_of_lt_of_le zt0 hb3.size
  have KtH := Lib.hid ((hb3.block _ ztH).trans KtH.out)
  have ztH := Nat.lt_of_lt_of_le ztH hb3.size
  clear hb3
  go_wp2_with fail
  refine (GG.out X3 BX3).mono ?_
  rintro e X4 ⟨rfl, hb4⟩
  have BX4 : Below w.heap.size w X4 := BX3.trans (hb4.mono BX3.size)
  have HA := Lib.hid (attrs_below HA.out hb4)
  have HK := Lib.hid (lies_below HK.out hb4)
  have Kt0 := Lib.hid ((hb4.block _ zt0).trans Kt0.out)
  have zt0 := Nat.lt_of_lt_of_le zt0 hb4.size
  have KtH := Lib.hid ((hb4.block _ ztH).trans KtH.out)
  have ztH := Nat.lt_of_lt_of_le ztH hb4.size
  clear hb4
  go_wp2_with fail
  refine (GR.out _).mono ?_
  rintro e X5 ⟨rfl, hb5⟩
  have BX5 : Below w.heap.size w X5 := BX4.trans (hb5.mono BX4.size)
  have HA := Lib.hid (attrs_below HA.out hb5)
  have HK := Lib.hid (lies_below HK.out hb5)
  have Kt0 := Lib.hid ((hb5.block _ zt0).trans Kt0.out)
  have zt0 := Nat.lt_of_lt_of_le zt0 hb5.size
  have KtH := Lib.hid ((hb5.block _ ztH).trans KtH.out)
  have ztH := Nat.lt_of_lt_of_le ztH hb5.size
  clear hb5
  go_wp2_with fail
  go_ret
  exact ⟨rfl, BX5⟩

set_option maxRecDepth 100000 in
set_option maxHeartbeats 8000000 in
theorem edits_g3 (f : Fo) (v : Value) (g : Fo) (u : Value) (p : List Int) (pv : Value) (th : Hd) (tk : Fo) (va vk : Value) (h : Hd) (vh : Value) (w : World) (hl : Lies w v f) (hg : Lies w u g) (hp : IntsLie w pv p) (ha : AttrsLie w va th.ats) (hk : Lies w vk tk) (hh : AttrsLie w vh h.ats) (h1 : great f = false) (h2 : great g = false) (h3 : great (.cons th tk .nil) = true) :
    Calls Tryz.prog 6 #[v, u, pv, treeA th va vk, hdA h vh] w fun e w' => e = .returned (.bool true) ∧ Below w.heap.size w w' := by
  have GR := Lib.hid (fun w => grown_any w)
  have GF := Lib.hid (fun W (hW : Below w.heap.size w W) => great_any f.size f v W (Nat.le_refl _) (lies_below hl hW))
  have GG := Lib.hid (fun W (hW : Below w.heap.size w W) => great_any g.size g u W (Nat.le_refl _) (lies_below hg hW))
  have GT := Lib.hid (fun W y (hy : Lies W y (.cons th tk .nil)) => great_any (Fo.cons th tk .nil).size (.cons th tk .nil) y W (Nat.le_refl _) hy)
  have GH := Lib.hid (fun W (hW : Below w.heap.size w W) => greatHead_any h vh W (attrs_below hh hW))
  have HA := Lib.hid ha
  have HK := Lib.hid hk
  rw [h1] at GF
  rw [h2] at GG
  rw [h3] at GT
  obtain ⟨av, cv, rfl⟩ := lies_form hl
  obtain ⟨au, cu, rfl⟩ := lies_form hg
  obtain ⟨pa, pc, rfl⟩ := ints_form hp
  obtain ⟨aa0, ca0, rfl⟩ := attrs_form ha
  obtain ⟨ak0, ck0, rfl⟩ := lies_form hk
  obtain ⟨aah, cah, rfl⟩ := attrs_form hh
  clear hl hg hp ha hk hh h1 h2 h3
  unfold treeA hdA
  go_enter Tryz.func6, Tryz.ntmps6
  go_upto_region 1 with fail
  have k8 := World.alloc_heap_new w (.cells #[.int .i64 th.k, .string ⟨th.l.toArray⟩, .slice aa0 th.ats.length ca0, .int .i64 th.n, .int .i64 th.d, .string ⟨th.x.toArray⟩, .slice ak0 tk.len ck0] 43)
  have b8 : Below w.heap.size w (w.alloc (.cells #[.int .i64 th.k, .string ⟨th.l.toArray⟩, .slice aa0 th.ats.length ca0, .int .i64 th.n, .int .i64 th.d, .string ⟨th.x.toArray⟩, .slice ak0 tk.len ck0] 43)) := (Below.refl _ _).alloc (Nat.le_refl _) _
  have e8 : (w.alloc (.cells #[.int .i64 th.k, .string ⟨th.l.toArray⟩, .slice aa0 th.ats.length ca0, .int .i64 th.n, .int .i64 th.d, .string ⟨th.x.toArray⟩, .slice ak0 tk.len ck0] 43)).heap.size = w.heap.size + 1 := by simp
  have k9 := World.alloc_heap_new (w.alloc (.cells #[.int .i64 th.k, .string ⟨th.l.toArray⟩, .slice aa0 th.ats.length ca0, .int .i64 th.n, .int .i64 th.d, .string ⟨th.x.toArray⟩, .slice ak0 tk.len ck0] 43)) (.cells #[.int .i64 h.k, .string ⟨h.l.toArray⟩, .slice aah h.ats.length cah, .int .i64 h.n, .int .i64 h.d, .string ⟨h.x.toArray⟩] 27)
  have b9 : Below (w.alloc (.cells #[.int .i64 th.k, .string ⟨th.l.toArray⟩, .slice aa0 th.ats.length ca0, .int .i64 th.n, .int .i64 th.d, .string ⟨th.x.toArray⟩, .slice ak0 tk.len ck0] 43)).heap.size (w.alloc (.cells #[.int .i64 th.k, .string ⟨th.l.toArray⟩, .slice aa0 th.ats.length ca0, .int .i64 th.n, .int .i64 th.d, .string ⟨th.x.toArray⟩, .slice ak0 tk.len ck0] 43)) ((w.alloc (.cells #[.int .i64 th.k, .string ⟨th.l.toArray⟩, .slice aa0 th.ats.length ca0, .int .i64 th.n, .int .i64 th.d, .string ⟨th.x.toArray⟩, .slice ak0 tk.len ck0] 43)).alloc (.cells #[.int .i64 h.k, .string ⟨h.l.toArray⟩, .slice aah h.ats.length cah, .int .i64 h.n, .int .i64 h.d, .string ⟨h.x.toArray⟩] 27)) := (Below.refl _ _).alloc (Nat.le_refl _) _
  have BX2 : Below w.heap.size w ((w.alloc (.cells #[.int .i64 th.k, .string ⟨th.l.toArray⟩, .slice aa0 th.ats.length ca0, .int .i64 th.n, .int .i64 th.d, .string ⟨th.x.toArray⟩, .slice ak0 tk.len ck0] 43)).alloc (.cells #[.int .i64 h.k, .string ⟨h.l.toArray⟩, .slice aah h.ats.length cah, .int .i64 h.n, .int .i64 h.d, .string ⟨h.x.toArray⟩] 27)) := b8.trans (b9.mono (by omega))
  have zt0 : w.heap.size < ((w.alloc (.cells #[.int .i64 th.k, .string ⟨th.l.toArray⟩, .slice aa0 th.ats.length ca0, .int .i64 th.n, .int .i64 th.d, .string ⟨th.x.toArray⟩, .slice ak0 tk.len ck0] 43)).alloc (.cells #[.int .i64 h.k, .string ⟨h.l.toArray⟩, .slice aah h.ats.length cah, .int .i64 h.n, .int .i64 h.d, .string ⟨h.x.toArray⟩] 27)).heap.size := by simp; omega
  have ztH : w.heap.size + 1 < ((w.alloc (.cells #[.int .i64 th.k, .string ⟨th.l.toArray⟩, .slice aa0 th.ats.length ca0, .int .i64 th.n, .int .i64 th.d, .string ⟨th.x.toArray⟩, .slice ak0 tk.len ck0] 43)).alloc (.cells #[.int .i64 h.k, .string ⟨h.l.toArray⟩, .slice aah h.ats.length cah, .int .i64 h.n, .int .i64 h.d, .string ⟨h.x.toArray⟩] 27)).heap.size := by simp
  have Kt0 := Lib.hid ((b9.block w.heap.size (by omega)).trans k8)
  rw [e8] at k9
  have KtH := Lib.hid k9
  have HA := Lib.hid (attrs_below HA.out BX2)
  have HK := Lib.hid (lies_below HK.out BX2)
  clear k8 k9 b8 b9 e8
  generalize (w.alloc (.cells #[.int .i64 th.k, .string ⟨th.l.toArray⟩, .slice aa0 th.ats.length ca0, .int .i64 th.n, .int .i64 th.d, .string ⟨th.x.toArray⟩, .slice ak0 tk.len ck0] 43)).alloc (.cells #[.int .i64 h.k, .string ⟨h.l.toArray⟩, .slice aah h.ats.length cah, .int .i64 h.n, .int .i64 h.d, .string ⟨h.x.toArray⟩] 27) = X2 at *
  obtain ⟨t0, ht0⟩ : ∃ t, t = w.heap.size := ⟨_, rfl⟩
  obtain ⟨tH, htH⟩ : ∃ t, t = w.heap.size + 1 := ⟨_, rfl⟩
  rw [← ht0] at Kt0 zt0
  rw [← htH] at KtH ztH
  have hpp : (Value.pointer (some ⟨w.heap.size, 0, none⟩)) = .pointer (some ⟨t0, 0, none⟩) := by rw [ht0]
  have hpq : (Value.pointer (some ⟨w.heap.size + 1, 0, none⟩)) = .pointer (some ⟨tH, 0, none⟩) := by rw [htH]
  rw [hpp, hpq]
  clear hpp hpq ht0 htH
  go_wp2_with fail
  refine (GF.out X2 BX2).mono ?_
  rintro e X3 ⟨rfl, hb3⟩
  have BX3 : Below w.heap.size w X3 := BX2.trans (hb3.mono BX2.size)
  have HA := Lib.hid (attrs_below HA.out hb3)
  have HK := Lib.hid (lies_below HK.out hb3)
  have Kt0 := Lib.hid ((hb3.block _ zt0).trans Kt0.out)
  have zt0 := Nat.lt_of_lt_of_le zt0 hb3.size
  have KtH := Lib.hid ((hb3.block _ ztH).trans KtH.out)
  have ztH := Nat.lt_of_lt_of_le ztH hb3.size
  clear hb3
  go_wp2_with fail
  refine (GG.out X3 BX3).mono ?_
  rintro e X4 ⟨rfl, hb4⟩
  have BX4 : Below w.heap.size w X4 := BX3.trans (hb4.mono BX3.size)
  have HA := Lib.hid (attrs_below HA.out hb4)
  have HK := Lib.hid (lies_below HK.out hb4)
  have Kt0 := Lib.hid ((hb4.block _ zt0).trans Kt0.out)
  have zt0 := Nat.lt_of_lt_of_le zt0 hb4.size
  have KtH := Lib.hid ((hb4.block _ ztH).trans KtH.out)
  have ztH := Nat.lt_of_lt_of_le ztH hb4.size
  clear hb4
  have d0 : X4.cell? ⟨t0, 0, none⟩ = some (.int .i64 th.k) := cell_of_block Kt0.out rfl
  have d1 : X4.cell? ⟨t0, 1, none⟩ = some (.string ⟨th.l.toArray⟩) := cell_of_block Kt0.out rfl
  have d2 : X4.cell? ⟨t0, 2, none⟩ = some (.slice aa0 th.ats.length ca0) := cell_of_block Kt0.out rfl
  have d3 : X4.cell? ⟨t0, 3, none⟩ = some (.int .i64 th.n) := cell_of_block Kt0.out rfl
  have d4 : X4.cell? ⟨t0, 4, none⟩ = some (.int .i64 th.d) := cell_of_block Kt0.out rfl
  have d5 : X4.cell? ⟨t0, 5, none⟩ = some (.string ⟨th.x.toArray⟩) := cell_of_block Kt0.out rfl
  have d6 : X4.cell? ⟨t0, 6, none⟩ = some (.slice ak0 tk.len ck0) := cell_of_block Kt0.out rfl
  have kk := World.alloc_heap_new X4 (.cells #[.int .i64 th.k, .string ⟨th.l.toArray⟩, .slice aa0 th.ats.length ca0, .int .i64 th.n, .int .i64 th.d, .string ⟨th.x.toArray⟩, .slice ak0 tk.len ck0] 43)
  have hb5 : Below X4.heap.size X4 (X4.alloc (.cells #[.int .i64 th.k, .string ⟨th.l.toArray⟩, .slice aa0 th.ats.length ca0, .int .i64 th.n, .int .i64 th.d, .string ⟨th.x.toArray⟩, .slice ak0 tk.len ck0] 43)) := (Below.refl _ _).alloc (Nat.le_refl _) _
  have HA := Lib.hid (attrs_below HA.out hb5)
  have HK := Lib.hid (lies_below HK.out hb5)
  have Kt0 := Lib.hid ((hb5.block _ zt0).trans Kt0.out)
  have zt0 := Nat.lt_of_lt_of_le zt0 hb5.size
  have KtH := Lib.hid ((hb5.block _ ztH).trans KtH.out)
  have ztH := Nat.lt_of_lt_of_le ztH hb5.size
  have LT := Lib.hid (lies_one kk HA.out HK.out)
  have BX5 : Below w.heap.size w (X4.alloc (.cells #[.int .i64 th.k, .string ⟨th.l.toArray⟩, .slice aa0 th.ats.length ca0, .int .i64 th.n, .int .i64 th.d, .string ⟨th.x.toArray⟩, .slice ak0 tk.len ck0] 43)) := BX4.trans (hb5.mono BX4.size)
  clear kk hb5
  go_wp2_with fail
  generalize X4.alloc (.cells #[.int .i64 th.k, .string ⟨th.l.toArray⟩, .slice aa0 th.ats.length ca0, .int .i64 th.n, .int .i64 th.d, .string ⟨th.x.toArray⟩, .slice ak0 tk.len ck0] 43) = X5 at *
  clear d0 d1 d2 d3 d4 d5 d6

  refine (GT.out X5 _ LT.out).mono ?_
  rintro e X6 ⟨rfl, hb6⟩
  have BX6 : Below w.heap.size w X6 := BX5.trans (hb6.mono BX5.size)
  have HA := Lib.hid (attrs_below HA.out hb6)
  have HK := Lib.hid (lies_below HK.out hb6)
  have Kt0 := Lib.hid ((hb6.block _ zt0).trans Kt0.out)
  have zt0 := Nat.lt_of_lt_of_le zt0 hb6.size
  have KtH := Lib.hid ((hb6.block _ ztH).trans KtH.out)
  have ztH := Nat.lt_of_lt_of_le ztH hb6.size
  clear LT
  clear hb6
  go_wp2_with fail
  refine (GR.out _).mono ?_
  rintro e X7 ⟨rfl, hb7⟩
  have BX7 : Below w.heap.size w X7 := BX6.trans (hb7.mono BX6.size)
  have HA := Lib.hid (attrs_below HA.out hb7)
  have HK := Lib.hid (lies_below HK.out hb7)
  have Kt0 := Lib.hid ((hb7.block _ zt0).trans Kt0.out)
  have zt0 := Nat.lt_of_lt_of_le zt0 hb7.size
  have KtH := Lib.hid ((hb7.block _ ztH).trans KtH.out)
  have ztH := Nat.lt_of_lt_of_le ztH hb7.size
  clear hb7
  go_wp2_with fail
  go_ret
  exact ⟨rfl, BX7⟩

set_option maxRecDepth 100000 in
set_option maxHeartbeats 8000000 in
theorem edits_g4 (f : Fo) (v : Value) (g : Fo) (u : Value) (p : List Int) (pv : Value) (th : Hd) (tk : Fo) (va vk : Value) (h : Hd) (vh : Value) (w : World) (hl : Lies w v f) (hg : Lies w u g) (hp : IntsLie w pv p) (ha : AttrsLie w va th.ats) (hk : Lies w vk tk) (hh : AttrsLie w vh h.ats) (h1 : great f = false) (h2 : great g = false) (h3 : great (.cons th tk .nil) = false) (h4 : greatHead h = true) :
    Calls Tryz.prog 6 #[v, u, pv, treeA th va vk, hdA h vh] w fun e w' => e = .returned (.bool true) ∧ Below w.heap.size w w' := by
  have GR := Lib.hid (fun w => grown_any w)
  have GF := Lib.hid (fun W (hW : Below w.heap.size w W) => great_any f.size f v W (Nat.le_refl _) (lies_below hl hW))
  have GG := Lib.hid (fun W (hW : Below w.heap.size w W) => great_any g.size g u W (Nat.le_refl _) (lies_below hg hW))
  have GT := Lib.hid (fun W y (hy : Lies W y (.cons th tk .nil)) => great_any (Fo.cons th tk .nil).size (.cons th tk .nil) y W (Nat.le_refl _) hy)
  have GH := Lib.hid (fun W (hW : Below w.heap.size w W) => greatHead_any h vh W (attrs_below hh hW))
  have HA := Lib.hid ha
  have HK := Lib.hid hk
  rw [h1] at GF
  rw [h2] at GG
  rw [h3] at GT
  rw [h4] at GH
  obtain ⟨av, cv, rfl⟩ := lies_form hl
  obtain ⟨au, cu, rfl⟩ := lies_form hg
  obtain ⟨pa, pc, rfl⟩ := ints_form hp
  obtain ⟨aa0, ca0, rfl⟩ := attrs_form ha
  obtain ⟨ak0, ck0, rfl⟩ := lies_form hk
  obtain ⟨aah, cah, rfl⟩ := attrs_form hh
  clear hl hg hp ha hk hh h1 h2 h3 h4
  unfold treeA hdA
  go_enter Tryz.func6, Tryz.ntmps6
  go_upto_region 1 with fail
  have k8 := World.alloc_heap_new w (.cells #[.int .i64 th.k, .string ⟨th.l.toArray⟩, .slice aa0 th.ats.length ca0, .int .i64 th.n, .int .i64 th.d, .string ⟨th.x.toArray⟩, .slice ak0 tk.len ck0] 43)
  have b8 : Below w.heap.size w (w.alloc (.cells #[.int .i64 th.k, .string ⟨th.l.toArray⟩, .slice aa0 th.ats.length ca0, .int .i64 th.n, .int .i64 th.d, .string ⟨th.x.toArray⟩, .slice ak0 tk.len ck0] 43)) := (Below.refl _ _).alloc (Nat.le_refl _) _
  have e8 : (w.alloc (.cells #[.int .i64 th.k, .string ⟨th.l.toArray⟩, .slice aa0 th.ats.length ca0, .int .i64 th.n, .int .i64 th.d, .string ⟨th.x.toArray⟩, .slice ak0 tk.len ck0] 43)).heap.size = w.heap.size + 1 := by simp
  have k9 := World.alloc_heap_new (w.alloc (.cells #[.int .i64 th.k, .string ⟨th.l.toArray⟩, .slice aa0 th.ats.length ca0, .int .i64 th.n, .int .i64 th.d, .string ⟨th.x.toArray⟩, .slice ak0 tk.len ck0] 43)) (.cells #[.int .i64 h.k, .string ⟨h.l.toArray⟩, .slice aah h.ats.length cah, .int .i64 h.n, .int .i64 h.d, .string ⟨h.x.toArray⟩] 27)
  have b9 : Below (w.alloc (.cells #[.int .i64 th.k, .string ⟨th.l.toArray⟩, .slice aa0 th.ats.length ca0, .int .i64 th.n, .int .i64 th.d, .string ⟨th.x.toArray⟩, .slice ak0 tk.len ck0] 43)).heap.size (w.alloc (.cells #[.int .i64 th.k, .string ⟨th.l.toArray⟩, .slice aa0 th.ats.length ca0, .int .i64 th.n, .int .i64 th.d, .string ⟨th.x.toArray⟩, .slice ak0 tk.len ck0] 43)) ((w.alloc (.cells #[.int .i64 th.k, .string ⟨th.l.toArray⟩, .slice aa0 th.ats.length ca0, .int .i64 th.n, .int .i64 th.d, .string ⟨th.x.toArray⟩, .slice ak0 tk.len ck0] 43)).alloc (.cells #[.int .i64 h.k, .string ⟨h.l.toArray⟩, .slice aah h.ats.length cah, .int .i64 h.n, .int .i64 h.d, .string ⟨h.x.toArray⟩] 27)) := (Below.refl _ _).alloc (Nat.le_refl _) _
  have BX2 : Below w.heap.size w ((w.alloc (.cells #[.int .i64 th.k, .string ⟨th.l.toArray⟩, .slice aa0 th.ats.length ca0, .int .i64 th.n, .int .i64 th.d, .string ⟨th.x.toArray⟩, .slice ak0 tk.len ck0] 43)).alloc (.cells #[.int .i64 h.k, .string ⟨h.l.toArray⟩, .slice aah h.ats.length cah, .int .i64 h.n, .int .i64 h.d, .string ⟨h.x.toArray⟩] 27)) := b8.trans (b9.mono (by omega))
  have zt0 : w.heap.size < ((w.alloc (.cells #[.int .i64 th.k, .string ⟨th.l.toArray⟩, .slice aa0 th.ats.length ca0, .int .i64 th.n, .int .i64 th.d, .string ⟨th.x.toArray⟩, .slice ak0 tk.len ck0] 43)).alloc (.cells #[.int .i64 h.k, .string ⟨h.l.toArray⟩, .slice aah h.ats.length cah, .int .i64 h.n, .int .i64 h.d, .string ⟨h.x.toArray⟩] 27)).heap.size := by simp; omega
  have ztH : w.heap.size + 1 < ((w.alloc (.cells #[.int .i64 th.k, .string ⟨th.l.toArray⟩, .slice aa0 th.ats.length ca0, .int .i64 th.n, .int .i64 th.d, .string ⟨th.x.toArray⟩, .slice ak0 tk.len ck0] 43)).alloc (.cells #[.int .i64 h.k, .string ⟨h.l.toArray⟩, .slice aah h.ats.length cah, .int .i64 h.n, .int .i64 h.d, .string ⟨h.x.toArray⟩] 27)).heap.size := by simp
  have Kt0 := Lib.hid ((b9.block w.heap.size (by omega)).trans k8)
  rw [e8] at k9
  have KtH := Lib.hid k9
  have HA := Lib.hid (attrs_below HA.out BX2)
  have HK := Lib.hid (lies_below HK.out BX2)
  clear k8 k9 b8 b9 e8
  generalize (w.alloc (.cells #[.int .i64 th.k, .string ⟨th.l.toArray⟩, .slice aa0 th.ats.length ca0, .int .i64 th.n, .int .i64 th.d, .string ⟨th.x.toArray⟩, .slice ak0 tk.len ck0] 43)).alloc (.cells #[.int .i64 h.k, .string ⟨h.l.toArray⟩, .slice aah h.ats.length cah, .int .i64 h.n, .int .i64 h.d, .string ⟨h.x.toArray⟩] 27) = X2 at *
  obtain ⟨t0, ht0⟩ : ∃ t, t = w.heap.size := ⟨_, rfl⟩
  obtain ⟨tH, htH⟩ : ∃ t, t = w.heap.size + 1 := ⟨_, rfl⟩
  rw [← ht0] at Kt0 zt0
  rw [← htH] at KtH ztH
  have hpp : (Value.pointer (some ⟨w.heap.size, 0, none⟩)) = .pointer (some ⟨t0, 0, none⟩) := by rw [ht0]
  have hpq : (Value.pointer (some ⟨w.heap.size + 1, 0, none⟩)) = .pointer (some ⟨tH, 0, none⟩) := by rw [htH]
  rw [hpp, hpq]
  clear hpp hpq ht0 htH
  go_wp2_with fail
  refine (GF.out X2 BX2).mono ?_
  rintro e X3 ⟨rfl, hb3⟩
  have BX3 : Below w.heap.size w X3 := BX2.trans (hb3.mono BX2.size)
  have HA := Lib.hid (attrs_below HA.out hb3)
  have HK := Lib.hid (lies_below HK.out hb3)
  have Kt0 := Lib.hid ((hb3.block _ zt0).trans Kt0.out)
  have zt0 := Nat.lt_of_lt_of_le zt0 hb3.size
  have KtH := Lib.hid ((hb3.block _ ztH).trans KtH.out)
  have ztH := Nat.lt_of_lt_of_le ztH hb3.size
  clear hb3
  go_wp2_with fail
  refine (GG.out X3 BX3).mono ?_
  rintro e X4 ⟨rfl, hb4⟩
  have BX4 : Below w.heap.size w X4 := BX3.trans (hb4.mono BX3.size)
  have HA := Lib.hid (attrs_below HA.out hb4)
  have HK := Lib.hid (lies_below HK.out hb4)
  have Kt0 := Lib.hid ((hb4.block _ zt0).trans Kt0.out)
  have zt0 := Nat.lt_of_lt_of_le zt0 hb4.size
  have KtH := Lib.hid ((hb4.block _ ztH).trans KtH.out)
  have ztH := Nat.lt_of_lt_of_le ztH hb4.size
  clear hb4
  have d0 : X4.cell? ⟨t0, 0, none⟩ = some (.int .i64 th.k) := cell_of_block Kt0.out rfl
  have d1 : X4.cell? ⟨t0, 1, none⟩ = some (.string ⟨th.l.toArray⟩) := cell_of_block Kt0.out rfl
  have d2 : X4.cell? ⟨t0, 2, none⟩ = some (.slice aa0 th.ats.length ca0) := cell_of_block Kt0.out rfl
  have d3 : X4.cell? ⟨t0, 3, none⟩ = some (.int .i64 th.n) := cell_of_block Kt0.out rfl
  have d4 : X4.cell? ⟨t0, 4, none⟩ = some (.int .i64 th.d) := cell_of_block Kt0.out rfl
  have d5 : X4.cell? ⟨t0, 5, none⟩ = some (.string ⟨th.x.toArray⟩) := cell_of_block Kt0.out rfl
  have d6 : X4.cell? ⟨t0, 6, none⟩ = some (.slice ak0 tk.len ck0) := cell_of_block Kt0.out rfl
  have kk := World.alloc_heap_new X4 (.cells #[.int .i64 th.k, .string ⟨th.l.toArray⟩, .slice aa0 th.ats.length ca0, .int .i64 th.n, .int .i64 th.d, .string ⟨th.x.toArray⟩, .slice ak0 tk.len ck0] 43)
  have hb5 : Below X4.heap.size X4 (X4.alloc (.cells #[.int .i64 th.k, .string ⟨th.l.toArray⟩, .slice aa0 th.ats.length ca0, .int .i64 th.n, .int .i64 th.d, .string ⟨th.x.toArray⟩, .slice ak0 tk.len ck0] 43)) := (Below.refl _ _).alloc (Nat.le_refl _) _
  have HA := Lib.hid (attrs_below HA.out hb5)
  have HK := Lib.hid (lies_below HK.out hb5)
  have Kt0 := Lib.hid ((hb5.block _ zt0).trans Kt0.out)
  have zt0 := Nat.lt_of_lt_of_le zt0 hb5.size
  have KtH := Lib.hid ((hb5.block _ ztH).trans KtH.out)
  have ztH := Nat.lt_of_lt_of_le ztH hb5.size
  have LT := Lib.hid (lies_one kk HA.out HK.out)
  have BX5 : Below w.heap.size w (X4.alloc (.cells #[.int .i64 th.k, .string ⟨th.l.toArray⟩, .slice aa0 th.ats.length ca0, .int .i64 th.n, .int .i64 th.d, .string ⟨th.x.toArray⟩, .slice ak0 tk.len ck0] 43)) := BX4.trans (hb5.mono BX4.size)
  clear kk hb5
  go_wp2_with fail
  generalize X4.alloc (.cells #[.int .i64 th.k, .string ⟨th.l.toArray⟩, .slice aa0 th.ats.length ca0, .int .i64 th.n, .int .i64 th.d, .string ⟨th.x.toArray⟩, .slice ak0 tk.len ck0] 43) = X5 at *
  clear d0 d1 d2 d3 d4 d5 d6

  refine (GT.out X5 _ LT.out).mono ?_
  rintro e X6 ⟨rfl, hb6⟩
  have BX6 : Below w.heap.size w X6 := BX5.trans (hb6.mono BX5.size)
  have HA := Lib.hid (attrs_below HA.out hb6)
  have HK := Lib.hid (lies_below HK.out hb6)
  have Kt0 := Lib.hid ((hb6.block _ zt0).trans Kt0.out)
  have zt0 := Nat.lt_of_lt_of_le zt0 hb6.size
  have KtH := Lib.hid ((hb6.block _ ztH).trans KtH.out)
  have ztH := Nat.lt_of_lt_of_le ztH hb6.size
  clear LT
  clear hb6
  have c0 : X6.cell? ⟨tH, 0, none⟩ = some (.int .i64 h.k) := cell_of_block KtH.out rfl
  have c1 : X6.cell? ⟨tH, 1, none⟩ = some (.string ⟨h.l.toArray⟩) := cell_of_block KtH.out rfl
  have c2 : X6.cell? ⟨tH, 2, none⟩ = some (.slice aah h.ats.length cah) := cell_of_block KtH.out rfl
  have c3 : X6.cell? ⟨tH, 3, none⟩ = some (.int .i64 h.n) := cell_of_block KtH.out rfl
  have c4 : X6.cell? ⟨tH, 4, none⟩ = some (.int .i64 h.d) := cell_of_block KtH.out rfl
  have c5 : X6.cell? ⟨tH, 5, none⟩ = some (.string ⟨h.x.toArray⟩) := cell_of_block KtH.out rfl
  go_wp2_with fail
  refine (GH.out X6 BX6).mono ?_
  rintro e X7 ⟨rfl, hb7⟩
  have BX7 : Below w.heap.size w X7 := BX6.trans (hb7.mono BX6.size)
  have HA := Lib.hid (attrs_below HA.out hb7)
  have HK := Lib.hid (lies_below HK.out hb7)
  have Kt0 := Lib.hid ((hb7.block _ zt0).trans Kt0.out)
  have zt0 := Nat.lt_of_lt_of_le zt0 hb7.size
  have KtH := Lib.hid ((hb7.block _ ztH).trans KtH.out)
  have ztH := Nat.lt_of_lt_of_le ztH hb7.size
  clear hb7
  clear c0 c1 c2 c3 c4 c5
  go_wp2_with fail
  refine (GR.out _).mono ?_
  rintro e X8 ⟨rfl, hb8⟩
  have BX8 : Below w.heap.size w X8 := BX7.trans (hb8.mono BX7.size)
  have HA := Lib.hid (attrs_below HA.out hb8)
  have HK := Lib.hid (lies_below HK.out hb8)
  have Kt0 := Lib.hid ((hb8.block _ zt0).trans Kt0.out)
  have zt0 := Nat.lt_of_lt_of_le zt0 hb8.size
  have KtH := Lib.hid ((hb8.block _ ztH).trans KtH.out)
  have ztH := Nat.lt_of_lt_of_le ztH hb8.size
  clear hb8
  go_wp2_with fail
  go_ret
  exact ⟨rfl, BX8⟩

set_option maxRecDepth 100000 in
set_option maxHeartbeats 8000000 in
theorem edits_g5 (f : Fo) (v : Value) (g : Fo) (u : Value) (p : List Int) (pv : Value) (th : Hd) (tk : Fo) (va vk : Value) (h : Hd) (vh : Value) (w : World) (hl : Lies w v f) (hg : Lies w u g) (hp : IntsLie w pv p) (ha : AttrsLie w va th.ats) (hk : Lies w vk tk) (hh : AttrsLie w vh h.ats) (h1 : great f = false) (h2 : great g = false) (h3 : great (.cons th tk .nil) = false) (h4 : greatHead h = false) (h5 : 60 < p.length) :
    Calls Tryz.prog 6 #[v, u, pv, treeA th va vk, hdA h vh] w fun e w' => e = .returned (.bool true) ∧ Below w.heap.size w w' := by
  have GR := Lib.hid (fun w => grown_any w)
  have GF := Lib.hid (fun W (hW : Below w.heap.size w W) => great_any f.size f v W (Nat.le_refl _) (lies_below hl hW))
  have GG := Lib.hid (fun W (hW : Below w.heap.size w W) => great_any g.size g u W (Nat.le_refl _) (lies_below hg hW))
  have GT := Lib.hid (fun W y (hy : Lies W y (.cons th tk .nil)) => great_any (Fo.cons th tk .nil).size (.cons th tk .nil) y W (Nat.le_refl _) hy)
  have GH := Lib.hid (fun W (hW : Below w.heap.size w W) => greatHead_any h vh W (attrs_below hh hW))
  have HA := Lib.hid ha
  have HK := Lib.hid hk
  rw [h1] at GF
  rw [h2] at GG
  rw [h3] at GT
  rw [h4] at GH
  have d5 : decide ((60 : Int) < (p.length : Int)) = true := by simp; omega
  obtain ⟨av, cv, rfl⟩ := lies_form hl
  obtain ⟨au, cu, rfl⟩ := lies_form hg
  obtain ⟨pa, pc, rfl⟩ := ints_form hp
  obtain ⟨aa0, ca0, rfl⟩ := attrs_form ha
  obtain ⟨ak0, ck0, rfl⟩ := lies_form hk
  obtain ⟨aah, cah, rfl⟩ := attrs_form hh
  clear hl hg hp ha hk hh h1 h2 h3 h4 h5
  unfold treeA hdA
  go_enter Tryz.func6, Tryz.ntmps6
  go_upto_region 1 with fail
  have k8 := World.alloc_heap_new w (.cells #[.int .i64 th.k, .string ⟨th.l.toArray⟩, .slice aa0 th.ats.length ca0, .int .i64 th.n, .int .i64 th.d, .string ⟨th.x.toArray⟩, .slice ak0 tk.len ck0] 43)
  have b8 : Below w.heap.size w (w.alloc (.cells #[.int .i64 th.k, .string ⟨th.l.toArray⟩, .slice aa0 th.ats.length ca0, .int .i64 th.n, .int .i64 th.d, .string ⟨th.x.toArray⟩, .slice ak0 tk.len ck0] 43)) := (Below.refl _ _).alloc (Nat.le_refl _) _
  have e8 : (w.alloc (.cells #[.int .i64 th.k, .string ⟨th.l.toArray⟩, .slice aa0 th.ats.length ca0, .int .i64 th.n, .int .i64 th.d, .string ⟨th.x.toArray⟩, .slice ak0 tk.len ck0] 43)).heap.size = w.heap.size + 1 := by simp
  have k9 := World.alloc_heap_new (w.alloc (.cells #[.int .i64 th.k, .string ⟨th.l.toArray⟩, .slice aa0 th.ats.length ca0, .int .i64 th.n, .int .i64 th.d, .string ⟨th.x.toArray⟩, .slice ak0 tk.len ck0] 43)) (.cells #[.int .i64 h.k, .string ⟨h.l.toArray⟩, .slice aah h.ats.length cah, .int .i64 h.n, .int .i64 h.d, .string ⟨h.x.toArray⟩] 27)
  have b9 : Below (w.alloc (.cells #[.int .i64 th.k, .string ⟨th.l.toArray⟩, .slice aa0 th.ats.length ca0, .int .i64 th.n, .int .i64 th.d, .string ⟨th.x.toArray⟩, .slice ak0 tk.len ck0] 43)).heap.size (w.alloc (.cells #[.int .i64 th.k, .string ⟨th.l.toArray⟩, .slice aa0 th.ats.length ca0, .int .i64 th.n, .int .i64 th.d, .string ⟨th.x.toArray⟩, .slice ak0 tk.len ck0] 43)) ((w.alloc (.cells #[.int .i64 th.k, .string ⟨th.l.toArray⟩, .slice aa0 th.ats.length ca0, .int .i64 th.n, .int .i64 th.d, .string ⟨th.x.toArray⟩, .slice ak0 tk.len ck0] 43)).alloc (.cells #[.int .i64 h.k, .string ⟨h.l.toArray⟩, .slice aah h.ats.length cah, .int .i64 h.n, .int .i64 h.d, .string ⟨h.x.toArray⟩] 27)) := (Below.refl _ _).alloc (Nat.le_refl _) _
  have BX2 : Below w.heap.size w ((w.alloc (.cells #[.int .i64 th.k, .string ⟨th.l.toArray⟩, .slice aa0 th.ats.length ca0, .int .i64 th.n, .int .i64 th.d, .string ⟨th.x.toArray⟩, .slice ak0 tk.len ck0] 43)).alloc (.cells #[.int .i64 h.k, .string ⟨h.l.toArray⟩, .slice aah h.ats.length cah, .int .i64 h.n, .int .i64 h.d, .string ⟨h.x.toArray⟩] 27)) := b8.trans (b9.mono (by omega))
  have zt0 : w.heap.size < ((w.alloc (.cells #[.int .i64 th.k, .string ⟨th.l.toArray⟩, .slice aa0 th.ats.length ca0, .int .i64 th.n, .int .i64 th.d, .string ⟨th.x.toArray⟩, .slice ak0 tk.len ck0] 43)).alloc (.cells #[.int .i64 h.k, .string ⟨h.l.toArray⟩, .slice aah h.ats.length cah, .int .i64 h.n, .int .i64 h.d, .string ⟨h.x.toArray⟩] 27)).heap.size := by simp; omega
  have ztH : w.heap.size + 1 < ((w.alloc (.cells #[.int .i64 th.k, .string ⟨th.l.toArray⟩, .slice aa0 th.ats.length ca0, .int .i64 th.n, .int .i64 th.d, .string ⟨th.x.toArray⟩, .slice ak0 tk.len ck0] 43)).alloc (.cells #[.int .i64 h.k, .string ⟨h.l.toArray⟩, .slice aah h.ats.length cah, .int .i64 h.n, .int .i64 h.d, .string ⟨h.x.toArray⟩] 27)).heap.size := by simp
  have Kt0 := Lib.hid ((b9.block w.heap.size (by omega)).trans k8)
  rw [e8] at k9
  have KtH := Lib.hid k9
  have HA := Lib.hid (attrs_below HA.out BX2)
  have HK := Lib.hid (lies_below HK.out BX2)
  clear k8 k9 b8 b9 e8
  generalize (w.alloc (.cells #[.int .i64 th.k, .string ⟨th.l.toArray⟩, .slice aa0 th.ats.length ca0, .int .i64 th.n, .int .i64 th.d, .string ⟨th.x.toArray⟩, .slice ak0 tk.len ck0] 43)).alloc (.cells #[.int .i64 h.k, .string ⟨h.l.toArray⟩, .slice aah h.ats.length cah, .int .i64 h.n, .int .i64 h.d, .string ⟨h.x.toArray⟩] 27) = X2 at *
  obtain ⟨t0, ht0⟩ : ∃ t, t = w.heap.size := ⟨_, rfl⟩
  obtain ⟨tH, htH⟩ : ∃ t, t = w.heap.size + 1 := ⟨_, rfl⟩
  rw [← ht0] at Kt0 zt0
  rw [← htH] at KtH ztH
  have hpp : (Value.pointer (some ⟨w.heap.size, 0, none⟩)) = .pointer (some ⟨t0, 0, none⟩) := by rw [ht0]
  have hpq : (Value.pointer (some ⟨w.heap.size + 1, 0, none⟩)) = .pointer (some ⟨tH, 0, none⟩) := by rw [htH]
  rw [hpp, hpq]
  clear hpp hpq ht0 htH
  go_wp2_with fail
  refine (GF.out X2 BX2).mono ?_
  rintro e X3 ⟨rfl, hb3⟩
  have BX3 : Below w.heap.size w X3 := BX2.trans (hb3.mono BX2.size)
  have HA := Lib.hid (attrs_below HA.out hb3)
  have HK := Lib.hid (lies_below HK.out hb3)
  have Kt0 := Lib.hid ((hb3.block _ zt0).trans Kt0.out)
  have zt0 := Nat.lt_of_lt_of_le zt0 hb3.size
  have KtH := Lib.hid ((hb3.block _ ztH).trans KtH.out)
  have ztH := Nat.lt_of_lt_of_le ztH hb3.size
  clear hb3
  go_wp2_with fail
  refine (GG.out X3 BX3).mono ?_
  rintro e X4 ⟨rfl, hb4⟩
  have BX4 : Below w.heap.size w X4 := BX3.trans (hb4.mono BX3.size)
  have HA := Lib.hid (attrs_below HA.out hb4)
  have HK := Lib.hid (lies_below HK.out hb4)
  have Kt0 := Lib.hid ((hb4.block _ zt0).trans Kt0.out)
  have zt0 := Nat.lt_of_lt_of_le zt0 hb4.size
  have KtH := Lib.hid ((hb4.block _ ztH).trans KtH.out)
  have ztH := Nat.lt_of_lt_of_le ztH hb4.size
  clear hb4
  have d0 : X4.cell? ⟨t0, 0, none⟩ = some (.int .i64 th.k) := cell_of_block Kt0.out rfl
  have d1 : X4.cell? ⟨t0, 1, none⟩ = some (.string ⟨th.l.toArray⟩) := cell_of_block Kt0.out rfl
  have d2 : X4.cell? ⟨t0, 2, none⟩ = some (.slice aa0 th.ats.length ca0) := cell_of_block Kt0.out rfl
  have d3 : X4.cell? ⟨t0, 3, none⟩ = some (.int .i64 th.n) := cell_of_block Kt0.out rfl
  have d4 : X4.cell? ⟨t0, 4, none⟩ = some (.int .i64 th.d) := cell_of_block Kt0.out rfl
  have d5 : X4.cell? ⟨t0, 5, none⟩ = some (.string ⟨th.x.toArray⟩) := cell_of_block Kt0.out rfl
  have d6 : X4.cell? ⟨t0, 6, none⟩ = some (.slice ak0 tk.len ck0) := cell_of_block Kt0.out rfl
  have kk := World.alloc_heap_new X4 (.cells #[.int .i64 th.k, .string ⟨th.l.toArray⟩, .slice aa0 th.ats.length ca0, .int .i64 th.n, .int .i64 th.d, .string ⟨th.x.toArray⟩, .slice ak0 tk.len ck0] 43)
  have hb5 : Below X4.heap.size X4 (X4.alloc (.cells #[.int .i64 th.k, .string ⟨th.l.toArray⟩, .slice aa0 th.ats.length ca0, .int .i64 th.n, .int .i64 th.d, .string ⟨th.x.toArray⟩, .slice ak0 tk.len ck0] 43)) := (Below.refl _ _).alloc (Nat.le_refl _) _
  have HA := Lib.hid (attrs_below HA.out hb5)
  have HK := Lib.hid (lies_below HK.out hb5)
  have Kt0 := Lib.hid ((hb5.block _ zt0).trans Kt0.out)
  have zt0 := Nat.lt_of_lt_of_le zt0 hb5.size
  have KtH := Lib.hid ((hb5.block _ ztH).trans KtH.out)
  have ztH := Nat.lt_of_lt_of_le ztH hb5.size
  have LT := Lib.hid (lies_one kk HA.out HK.out)
  have BX5 : Below w.heap.size w (X4.alloc (.cells #[.int .i64 th.k, .string ⟨th.l.toArray⟩, .slice aa0 th.ats.length ca0, .int .i64 th.n, .int .i64 th.d, .string ⟨th.x.toArray⟩, .slice ak0 tk.len ck0] 43)) := BX4.trans (hb5.mono BX4.size)
  clear kk hb5
  go_wp2_with fail
  generalize X4.alloc (.cells #[.int .i64 th.k, .string ⟨th.l.toArray⟩, .slice aa0 th.ats.length ca0, .int .i64 th.n, .int .i64 th.d, .string ⟨th.x.toArray⟩, .slice ak0 tk.len ck0] 43) = X5 at *
  clear d0 d1 d2 d3 d4 d5 d6

  refine (GT.out X5 _ LT.out).mono ?_
  rintro e X6 ⟨rfl, hb6⟩
  have BX6 : Below w.heap.size w X6 := BX5.trans (hb6.mono BX5.size)
  have HA := Lib.hid (attrs_below HA.out hb6)
  have HK := Lib.hid (lies_below HK.out hb6)
  have Kt0 := Lib.hid ((hb6.block _ zt0).trans Kt0.out)
  have zt0 := Nat.lt_of_lt_of_le zt0 hb6.size
  have KtH := Lib.hid ((hb6.block _ ztH).trans KtH.out)
  have ztH := Nat.lt_of_lt_of_le ztH hb6.size
  clear LT
  clear hb6
  have c0 : X6.cell? ⟨tH, 0, none⟩ = some (.int .i64 h.k) := cell_of_block KtH.out rfl
  have c1 : X6.cell? ⟨tH, 1, none⟩ = some (.string ⟨h.l.toArray⟩) := cell_of_block KtH.out rfl
  have c2 : X6.cell? ⟨tH, 2, none⟩ = some (.slice aah h.ats.length cah) := cell_of_block KtH.out rfl
  have c3 : X6.cell? ⟨tH, 3, none⟩ = some (.int .i64 h.n) := cell_of_block KtH.out rfl
  have c4 : X6.cell? ⟨tH, 4, none⟩ = some (.int .i64 h.d) := cell_of_block KtH.out rfl
  have c5 : X6.cell? ⟨tH, 5, none⟩ = some (.string ⟨h.x.toArray⟩) := cell_of_block KtH.out rfl
  go_wp2_with fail
  refine (GH.out X6 BX6).mono ?_
  rintro e X7 ⟨rfl, hb7⟩
  have BX7 : Below w.heap.size w X7 := BX6.trans (hb7.mono BX6.size)
  have HA := Lib.hid (attrs_below HA.out hb7)
  have HK := Lib.hid (lies_below HK.out hb7)
  have Kt0 := Lib.hid ((hb7.block _ zt0).trans Kt0.out)
  have zt0 := Nat.lt_of_lt_of_le zt0 hb7.size
  have KtH := Lib.hid ((hb7.block _ ztH).trans KtH.out)
  have ztH := Nat.lt_of_lt_of_le ztH hb7.size
  clear hb7
  clear c0 c1 c2 c3 c4 c5
  go_wp2_with fail
  refine (GR.out _).mono ?_
  rintro e X8 ⟨rfl, hb8⟩
  have BX8 : Below w.heap.size w X8 := BX7.trans (hb8.mono BX7.size)
  have HA := Lib.hid (attrs_below HA.out hb8)
  have HK := Lib.hid (lies_below HK.out hb8)
  have Kt0 := Lib.hid ((hb8.block _ zt0).trans Kt0.out)
  have zt0 := Nat.lt_of_lt_of_le zt0 hb8.size
  have KtH := Lib.hid ((hb8.block _ ztH).trans KtH.out)
  have ztH := Nat.lt_of_lt_of_le ztH hb8.size
  clear hb8
  go_wp2_with fail
  go_ret
  exact ⟨rfl, BX8⟩

set_option maxRecDepth 100000 in
set_option maxHeartbeats 8000000 in
theorem edits_go (f : Fo) (v : Value) (g : Fo) (u : Value) (p : List Int) (pv : Value) (th : Hd) (tk : Fo) (va vk : Value) (h : Hd) (vh : Value) (w : World) (hl : Lies w v f) (hg : Lies w u g) (hp : IntsLie w pv p) (ha : AttrsLie w va th.ats) (hk : Lies w vk tk) (hh : AttrsLie w vh h.ats) (h1 : great f = false) (h2 : great g = false) (h3 : great (.cons th tk .nil) = false) (h4 : greatHead h = false) (h5 : p.length ≤ 60) :
    Calls Tryz.prog 6 #[v, u, pv, treeA th va vk, hdA h vh] w fun e w' => e = .returned (.bool true) ∧ Below w.heap.size w w' := by
  have GR := Lib.hid (fun w => grown_any w)
  have GF := Lib.hid (fun W (hW : Below w.heap.size w W) => great_any f.size f v W (Nat.le_refl _) (lies_below hl hW))
  have GG := Lib.hid (fun W (hW : Below w.heap.size w W) => great_any g.size g u W (Nat.le_refl _) (lies_below hg hW))
  have GT := Lib.hid (fun W y (hy : Lies W y (.cons th tk .nil)) => great_any (Fo.cons th tk .nil).size (.cons th tk .nil) y W (Nat.le_refl _) hy)
  have GH := Lib.hid (fun W (hW : Below w.heap.size w W) => greatHead_any h vh W (attrs_below hh hW))
  have HA := Lib.hid ha
  have HK := Lib.hid hk
  rw [h1] at GF
  rw [h2] at GG
  rw [h3] at GT
  rw [h4] at GH
  have d5 : decide ((60 : Int) < (p.length : Int)) = false := by simp; omega
  have hs := small_lies hl h1
  have gs := small_lies hg h2
  have hhf := (hdFit_of h4).1
  have hpl : p.length ≤ 1000000 := by omega
  obtain ⟨av, cv, rfl⟩ := lies_form hl
  obtain ⟨au, cu, rfl⟩ := lies_form hg
  obtain ⟨pa, pc, rfl⟩ := ints_form hp
  obtain ⟨aa0, ca0, rfl⟩ := attrs_form ha
  obtain ⟨ak0, ck0, rfl⟩ := lies_form hk
  obtain ⟨aah, cah, rfl⟩ := attrs_form hh
  have ts : Small (.cons th tk .nil) := by
    have hb : Below w.heap.size w (w.alloc (.cells #[.int .i64 th.k, .string ⟨th.l.toArray⟩, .slice aa0 th.ats.length ca0, .int .i64 th.n, .int .i64 th.d, .string ⟨th.x.toArray⟩, .slice ak0 tk.len ck0] 43)) := (Below.refl _ _).alloc (Nat.le_refl _) _
    exact small_lies (lies_one (World.alloc_heap_new w (.cells #[.int .i64 th.k, .string ⟨th.l.toArray⟩, .slice aa0 th.ats.length ca0, .int .i64 th.n, .int .i64 th.d, .string ⟨th.x.toArray⟩, .slice ak0 tk.len ck0] 43)) (attrs_below ha hb) (lies_below hk hb)) h3
  have P1 := Lib.hid (fun W (hW : Below w.heap.size w W) aa ca ak ck (h1 : AttrsLie W (.slice aa th.ats.length ca) th.ats) (h2 : Lies W (.slice ak tk.len ck) tk) => tput_any f p th tk _ _ aa ca ak ck W (lies_below hl hW) (ints_below hp hW) hpl h1 h2 hs ts)
  have P2 := Lib.hid (fun W (hW : Below w.heap.size w W) aa ca ak ck (h1 : AttrsLie W (.slice aa th.ats.length ca) th.ats) (h2 : Lies W (.slice ak tk.len ck) tk) => qput_any f p th tk _ _ aa ca ak ck W (lies_below hl hW) (ints_below hp hW) hpl h1 h2 hs ts)
  have I1 := Lib.hid (fun W (hW : Below w.heap.size w W) aa ca ak ck (h1 : AttrsLie W (.slice aa th.ats.length ca) th.ats) (h2 : Lies W (.slice ak tk.len ck) tk) => tinsert_any f p th tk _ _ aa ca ak ck W (lies_below hl hW) (ints_below hp hW) hpl h1 h2 hs ts)
  have I2 := Lib.hid (fun W (hW : Below w.heap.size w W) aa ca ak ck (h1 : AttrsLie W (.slice aa th.ats.length ca) th.ats) (h2 : Lies W (.slice ak tk.len ck) tk) => qins_any f p th tk _ _ aa ca ak ck W (lies_below hl hW) (ints_below hp hW) hpl h1 h2 hs ts)
  have C1 := Lib.hid (fun W (hW : Below w.heap.size w W) => tcut_any f p _ _ W (lies_below hl hW) (ints_below hp hW) hpl hs)
  have C2 := Lib.hid (fun W (hW : Below w.heap.size w W) => qcut_any f p _ _ W (lies_below hl hW) (ints_below hp hW) hpl hs)
  have K1 := Lib.hid (fun W (hW : Below w.heap.size w W) => tconcat_any f g _ _ W (lies_below hl hW) (lies_below hg hW) hs gs)
  have K2 := Lib.hid (fun W (hW : Below w.heap.size w W) => qconcat_any f g _ _ W (lies_below hl hW) (lies_below hg hW) hs gs)
  have W1 := Lib.hid (fun W (hW : Below w.heap.size w W) => twrap_any h _ f _ W (attrs_below hh hW) (lies_below hl hW) hhf hs)
  have W2 := Lib.hid (fun W (hW : Below w.heap.size w W) => qwrap_any h _ f _ W (attrs_below hh hW) (lies_below hl hW) hhf hs)
  have U1 := Lib.hid (fun W (hW : Below w.heap.size w W) => tturn_any f _ W (lies_below hl hW) hs)
  have U2 := Lib.hid (fun W (hW : Below w.heap.size w W) => qturn_any f _ W (lies_below hl hW) hs)
  have SR := Lib.hid (fun (F : Fo) x y W (h1 : Lies W x F) (h2 : Lies W y F) => same_refl F.size F (Nat.le_refl _) x y W h1 h2)
  unfold aggOf at P1 P2 I1 I2
  unfold hdA at W1 W2
  generalize putV f p (.cons th tk .nil) = r1 at *
  generalize insV f p (.cons th tk .nil) = r2 at *
  generalize cutV f p = r3 at *
  generalize concatV f g = r4 at *
  generalize wrapV h f = r5 at *
  generalize turnV f = r6 at *
  obtain ⟨r1, e1⟩ := r1
  obtain ⟨r2, e2⟩ := r2
  obtain ⟨r3, e3⟩ := r3
  obtain ⟨r4, e4⟩ := r4
  obtain ⟨r5, e5⟩ := r5
  obtain ⟨r6, e6⟩ := r6
  have x1 : (e1 != e1) = false := by simp
  have x2 : (e2 != e2) = false := by simp
  have x3 : (e3 != e3) = false := by simp
  have x4 : (e4 != e4) = false := by simp
  have x5 : (e5 != e5) = false := by simp
  have x6 : (e6 == e6) = true := by simp
  clear hl hg hp ha hk hh h1 h2 h3 h4 h5 hs gs hhf hpl ts
  unfold treeA hdA
  go_enter Tryz.func6, Tryz.ntmps6
  go_upto_region 1 with fail
  have k8 := World.alloc_heap_new w (.cells #[.int .i64 th.k, .string ⟨th.l.toArray⟩, .slice aa0 th.ats.length ca0, .int .i64 th.n, .int .i64 th.d, .string ⟨th.x.toArray⟩, .slice ak0 tk.len ck0] 43)
  have b8 : Below w.heap.size w (w.alloc (.cells #[.int .i64 th.k, .string ⟨th.l.toArray⟩, .slice aa0 th.ats.length ca0, .int .i64 th.n, .int .i64 th.d, .string ⟨th.x.toArray⟩, .slice ak0 tk.len ck0] 43)) := (Below.refl _ _).alloc (Nat.le_refl _) _
  have e8 : (w.alloc (.cells #[.int .i64 th.k, .string ⟨th.l.toArray⟩, .slice aa0 th.ats.length ca0, .int .i64 th.n, .int .i64 th.d, .string ⟨th.x.toArray⟩, .slice ak0 tk.len ck0] 43)).heap.size = w.heap.size + 1 := by simp
  have k9 := World.alloc_heap_new (w.alloc (.cells #[.int .i64 th.k, .string ⟨th.l.toArray⟩, .slice aa0 th.ats.length ca0, .int .i64 th.n, .int .i64 th.d, .string ⟨th.x.toArray⟩, .slice ak0 tk.len ck0] 43)) (.cells #[.int .i64 h.k, .string ⟨h.l.toArray⟩, .slice aah h.ats.length cah, .int .i64 h.n, .int .i64 h.d, .string ⟨h.x.toArray⟩] 27)
  have b9 : Below (w.alloc (.cells #[.int .i64 th.k, .string ⟨th.l.toArray⟩, .slice aa0 th.ats.length ca0, .int .i64 th.n, .int .i64 th.d, .string ⟨th.x.toArray⟩, .slice ak0 tk.len ck0] 43)).heap.size (w.alloc (.cells #[.int .i64 th.k, .string ⟨th.l.toArray⟩, .slice aa0 th.ats.length ca0, .int .i64 th.n, .int .i64 th.d, .string ⟨th.x.toArray⟩, .slice ak0 tk.len ck0] 43)) ((w.alloc (.cells #[.int .i64 th.k, .string ⟨th.l.toArray⟩, .slice aa0 th.ats.length ca0, .int .i64 th.n, .int .i64 th.d, .string ⟨th.x.toArray⟩, .slice ak0 tk.len ck0] 43)).alloc (.cells #[.int .i64 h.k, .string ⟨h.l.toArray⟩, .slice aah h.ats.length cah, .int .i64 h.n, .int .i64 h.d, .string ⟨h.x.toArray⟩] 27)) := (Below.refl _ _).alloc (Nat.le_refl _) _
  have BX2 : Below w.heap.size w ((w.alloc (.cells #[.int .i64 th.k, .string ⟨th.l.toArray⟩, .slice aa0 th.ats.length ca0, .int .i64 th.n, .int .i64 th.d, .string ⟨th.x.toArray⟩, .slice ak0 tk.len ck0] 43)).alloc (.cells #[.int .i64 h.k, .string ⟨h.l.toArray⟩, .slice aah h.ats.length cah, .int .i64 h.n, .int .i64 h.d, .string ⟨h.x.toArray⟩] 27)) := b8.trans (b9.mono (by omega))
  have zt0 : w.heap.size < ((w.alloc (.cells #[.int .i64 th.k, .string ⟨th.l.toArray⟩, .slice aa0 th.ats.length ca0, .int .i64 th.n, .int .i64 th.d, .string ⟨th.x.toArray⟩, .slice ak0 tk.len ck0] 43)).alloc (.cells #[.int .i64 h.k, .string ⟨h.l.toArray⟩, .slice aah h.ats.length cah, .int .i64 h.n, .int .i64 h.d, .string ⟨h.x.toArray⟩] 27)).heap.size := by simp; omega
  have ztH : w.heap.size + 1 < ((w.alloc (.cells #[.int .i64 th.k, .string ⟨th.l.toArray⟩, .slice aa0 th.ats.length ca0, .int .i64 th.n, .int .i64 th.d, .string ⟨th.x.toArray⟩, .slice ak0 tk.len ck0] 43)).alloc (.cells #[.int .i64 h.k, .string ⟨h.l.toArray⟩, .slice aah h.ats.length cah, .int .i64 h.n, .int .i64 h.d, .string ⟨h.x.toArray⟩] 27)).heap.size := by simp
  have Kt0 := Lib.hid ((b9.block w.heap.size (by omega)).trans k8)
  rw [e8] at k9
  have KtH := Lib.hid k9
  have HA := Lib.hid (attrs_below HA.out BX2)
  have HK := Lib.hid (lies_below HK.out BX2)
  clear k8 k9 b8 b9 e8
  generalize (w.alloc (.cells #[.int .i64 th.k, .string ⟨th.l.toArray⟩, .slice aa0 th.ats.length ca0, .int .i64 th.n, .int .i64 th.d, .string ⟨th.x.toArray⟩, .slice ak0 tk.len ck0] 43)).alloc (.cells #[.int .i64 h.k, .string ⟨h.l.toArray⟩, .slice aah h.ats.length cah, .int .i64 h.n, .int .i64 h.d, .string ⟨h.x.toArray⟩] 27) = X2 at *
  obtain ⟨t0, ht0⟩ : ∃ t, t = w.heap.size := ⟨_, rfl⟩
  obtain ⟨tH, htH⟩ : ∃ t, t = w.heap.size + 1 := ⟨_, rfl⟩
  rw [← ht0] at Kt0 zt0
  rw [← htH] at KtH ztH
  have hpp : (Value.pointer (some ⟨w.heap.size, 0, none⟩)) = .pointer (some ⟨t0, 0, none⟩) := by rw [ht0]
  have hpq : (Value.pointer (some ⟨w.heap.size + 1, 0, none⟩)) = .pointer (some ⟨tH, 0, none⟩) := by rw [htH]
  rw [hpp, hpq]
  clear hpp hpq ht0 htH
  go_wp2_with fail
  refine (GF.out X2 BX2).mono ?_
  rintro e X3 ⟨rfl, hb3⟩
  have BX3 : Below w.heap.size w X3 := BX2.trans (hb3.mono BX2.size)
  have HA := Lib.hid (attrs_below HA.out hb3)
  have HK := Lib.hid (lies_below HK.out hb3)
  have Kt0 := Lib.hid ((hb3.block _ zt0).trans Kt0.out)
  have zt0 := Nat.lt_of_lt_of_le zt0 hb3.size
  have KtH := Lib.hid ((hb3.block _ ztH).trans KtH.out)
  have ztH := Nat.lt_of_lt_of_le ztH hb3.size
  clear hb3
  go_wp2_with fail
  refine (GG.out X3 BX3).mono ?_
  rintro e X4 ⟨rfl, hb4⟩
  have BX4 : Below w.heap.size w X4 := BX3.trans (hb4.mono BX3.size)
  have HA := Lib.hid (attrs_below HA.out hb4)
  have HK := Lib.hid (lies_below HK.out hb4)
  have Kt0 := Lib.hid ((hb4.block _ zt0).trans Kt0.out)
  have zt0 := Nat.lt_of_lt_of_le zt0 hb4.size
  have KtH := Lib.hid ((hb4.block _ ztH).trans KtH.out)
  have ztH := Nat.lt_of_lt_of_le ztH hb4.size
  clear hb4
  have d0 : X4.cell? ⟨t0, 0, none⟩ = some (.int .i64 th.k) := cell_of_block Kt0.out rfl
  have d1 : X4.cell? ⟨t0, 1, none⟩ = some (.string ⟨th.l.toArray⟩) := cell_of_block Kt0.out rfl
  have d2 : X4.cell? ⟨t0, 2, none⟩ = some (.slice aa0 th.ats.length ca0) := cell_of_block Kt0.out rfl
  have d3 : X4.cell? ⟨t0, 3, none⟩ = some (.int .i64 th.n) := cell_of_block Kt0.out rfl
  have d4 : X4.cell? ⟨t0, 4, none⟩ = some (.int .i64 th.d) := cell_of_block Kt0.out rfl
  have d5 : X4.cell? ⟨t0, 5, none⟩ = some (.string ⟨th.x.toArray⟩) := cell_of_block Kt0.out rfl
  have d6 : X4.cell? ⟨t0, 6, none⟩ = some (.slice ak0 tk.len ck0) := cell_of_block Kt0.out rfl
  have kk := World.alloc_heap_new X4 (.cells #[.int .i64 th.k, .string ⟨th.l.toArray⟩, .slice aa0 th.ats.length ca0, .int .i64 th.n, .int .i64 th.d, .string ⟨th.x.toArray⟩, .slice ak0 tk.len ck0] 43)
  have hb5 : Below X4.heap.size X4 (X4.alloc (.cells #[.int .i64 th.k, .string ⟨th.l.toArray⟩, .slice aa0 th.ats.length ca0, .int .i64 th.n, .int .i64 th.d, .string ⟨th.x.toArray⟩, .slice ak0 tk.len ck0] 43)) := (Below.refl _ _).alloc (Nat.le_refl _) _
  have HA := Lib.hid (attrs_below HA.out hb5)
  have HK := Lib.hid (lies_below HK.out hb5)
  have Kt0 := Lib.hid ((hb5.block _ zt0).trans Kt0.out)
  have zt0 := Nat.lt_of_lt_of_le zt0 hb5.size
  have KtH := Lib.hid ((hb5.block _ ztH).trans KtH.out)
  have ztH := Nat.lt_of_lt_of_le ztH hb5.size
  have LT := Lib.hid (lies_one kk HA.out HK.out)
  have BX5 : Below w.heap.size w (X4.alloc (.cells #[.int .i64 th.k, .string ⟨th.l.toArray⟩, .slice aa0 th.ats.length ca0, .int .i64 th.n, .int .i64 th.d, .string ⟨th.x.toArray⟩, .slice ak0 tk.len ck0] 43)) := BX4.trans (hb5.mono BX4.size)
  clear kk hb5
  go_wp2_with fail
  generalize X4.alloc (.cells #[.int .i64 th.k, .string ⟨th.l.toArray⟩, .slice aa0 th.ats.length ca0, .int .i64 th.n, .int .i64 th.d, .string ⟨th.x.toArray⟩, .slice ak0 tk.len ck0] 43) = X5 at *
  clear d0 d1 d2 d3 d4 d5 d6

  refine (GT.out X5 _ LT.out).mono ?_
  rintro e X6 ⟨rfl, hb6⟩
  have BX6 : Below w.heap.size w X6 := BX5.trans (hb6.mono BX5.size)
  have HA := Lib.hid (attrs_below HA.out hb6)
  have HK := Lib.hid (lies_below HK.out hb6)
  have Kt0 := Lib.hid ((hb6.block _ zt0).trans Kt0.out)
  have zt0 := Nat.lt_of_lt_of_le zt0 hb6.size
  have KtH := Lib.hid ((hb6.block _ ztH).trans KtH.out)
  have ztH := Nat.lt_of_lt_of_le ztH hb6.size
  clear LT
  clear hb6
  have c0 : X6.cell? ⟨tH, 0, none⟩ = some (.int .i64 h.k) := cell_of_block KtH.out rfl
  have c1 : X6.cell? ⟨tH, 1, none⟩ = some (.string ⟨h.l.toArray⟩) := cell_of_block KtH.out rfl
  have c2 : X6.cell? ⟨tH, 2, none⟩ = some (.slice aah h.ats.length cah) := cell_of_block KtH.out rfl
  have c3 : X6.cell? ⟨tH, 3, none⟩ = some (.int .i64 h.n) := cell_of_block KtH.out rfl
  have c4 : X6.cell? ⟨tH, 4, none⟩ = some (.int .i64 h.d) := cell_of_block KtH.out rfl
  have c5 : X6.cell? ⟨tH, 5, none⟩ = some (.string ⟨h.x.toArray⟩) := cell_of_block KtH.out rfl
  go_wp2_with fail
  refine (GH.out X6 BX6).mono ?_
  rintro e X7 ⟨rfl, hb7⟩
  have BX7 : Below w.heap.size w X7 := BX6.trans (hb7.mono BX6.size)
  have HA := Lib.hid (attrs_below HA.out hb7)
  have HK := Lib.hid (lies_below HK.out hb7)
  have Kt0 := Lib.hid ((hb7.block _ zt0).trans Kt0.out)
  have zt0 := Nat.lt_of_lt_of_le zt0 hb7.size
  have KtH := Lib.hid ((hb7.block _ ztH).trans KtH.out)
  have ztH := Nat.lt_of_lt_of_le ztH hb7.size
  clear hb7
  clear c0 c1 c2 c3 c4 c5
  have d0 : X7.cell? ⟨t0, 0, none⟩ = some (.int .i64 th.k) := cell_of_block Kt0.out rfl
  have d1 : X7.cell? ⟨t0, 1, none⟩ = some (.string ⟨th.l.toArray⟩) := cell_of_block Kt0.out rfl
  have d2 : X7.cell? ⟨t0, 2, none⟩ = some (.slice aa0 th.ats.length ca0) := cell_of_block Kt0.out rfl
  have d3 : X7.cell? ⟨t0, 3, none⟩ = some (.int .i64 th.n) := cell_of_block Kt0.out rfl
  have d4 : X7.cell? ⟨t0, 4, none⟩ = some (.int .i64 th.d) := cell_of_block Kt0.out rfl
  have d5 : X7.cell? ⟨t0, 5, none⟩ = some (.string ⟨th.x.toArray⟩) := cell_of_block Kt0.out rfl
  have d6 : X7.cell? ⟨t0, 6, none⟩ = some (.slice ak0 tk.len ck0) := cell_of_block Kt0.out rfl
  go_wp2_with fail
  refine (P1.out X7 BX7 _ _ _ _ HA.out HK.out).mono ?_
  rintro e X8 ⟨vx, rfl, hF, hb8⟩
  have BX8 : Below w.heap.size w X8 := BX7.trans (hb8.mono BX7.size)
  have HA := Lib.hid (attrs_below HA.out hb8)
  have HK := Lib.hid (lies_below HK.out hb8)
  have Kt0 := Lib.hid ((hb8.block _ zt0).trans Kt0.out)
  have zt0 := Nat.lt_of_lt_of_le zt0 hb8.size
  have KtH := Lib.hid ((hb8.block _ ztH).trans KtH.out)
  have ztH := Nat.lt_of_lt_of_le ztH hb8.size
  have Hx := Lib.hid (liesF_lies hF)
  obtain ⟨ax, cx, rfl⟩ := liesF_form hF
  clear hF
  clear hb8
  clear d0 d1 d2 d3 d4 d5 d6
  have d0 : X8.cell? ⟨t0, 0, none⟩ = some (.int .i64 th.k) := cell_of_block Kt0.out rfl
  have d1 : X8.cell? ⟨t0, 1, none⟩ = some (.string ⟨th.l.toArray⟩) := cell_of_block Kt0.out rfl
  have d2 : X8.cell? ⟨t0, 2, none⟩ = some (.slice aa0 th.ats.length ca0) := cell_of_block Kt0.out rfl
  have d3 : X8.cell? ⟨t0, 3, none⟩ = some (.int .i64 th.n) := cell_of_block Kt0.out rfl
  have d4 : X8.cell? ⟨t0, 4, none⟩ = some (.int .i64 th.d) := cell_of_block Kt0.out rfl
  have d5 : X8.cell? ⟨t0, 5, none⟩ = some (.string ⟨th.x.toArray⟩) := cell_of_block Kt0.out rfl
  have d6 : X8.cell? ⟨t0, 6, none⟩ = some (.slice ak0 tk.len ck0) := cell_of_block Kt0.out rfl
  go_wp2_with fail
  refine (P2.out X8 BX8 _ _ _ _ HA.out HK.out).mono ?_
  rintro e X9 ⟨vy, rfl, hF, hb9⟩
  have BX9 : Below w.heap.size w X9 := BX8.trans (hb9.mono BX8.size)
  have HA := Lib.hid (attrs_below HA.out hb9)
  have HK := Lib.hid (lies_below HK.out hb9)
  have Hx := Lib.hid (lies_below Hx.out hb9)
  have Kt0 := Lib.hid ((hb9.block _ zt0).trans Kt0.out)
  have zt0 := Nat.lt_of_lt_of_le zt0 hb9.size
  have KtH := Lib.hid ((hb9.block _ ztH).trans KtH.out)
  have ztH := Nat.lt_of_lt_of_le ztH hb9.size
  have Hy := Lib.hid (liesF_lies hF)
  obtain ⟨ay, cy, rfl⟩ := liesF_form hF
  clear hF
  clear hb9
  clear d0 d1 d2 d3 d4 d5 d6
  go_wp2_with fail
  refine (SR.out _ _ _ X9 Hx.out Hy.out).mono ?_
  rintro e X10 ⟨rfl, hb10⟩
  have BX10 : Below w.heap.size w X10 := BX9.trans (hb10.mono BX9.size)
  have HA := Lib.hid (attrs_below HA.out hb10)
  have HK := Lib.hid (lies_below HK.out hb10)
  have Hx := Lib.hid (lies_below Hx.out hb10)
  have Hy := Lib.hid (lies_below Hy.out hb10)
  have Kt0 := Lib.hid ((hb10.block _ zt0).trans Kt0.out)
  have zt0 := Nat.lt_of_lt_of_le zt0 hb10.size
  have KtH := Lib.hid ((hb10.block _ ztH).trans KtH.out)
  have ztH := Nat.lt_of_lt_of_le ztH hb10.size
  clear hb10
  clear Hx Hy
  clear P1 P2 x1
  have d0 : X10.cell? ⟨t0, 0, none⟩ = some (.int .i64 th.k) := cell_of_block Kt0.out rfl
  have d1 : X10.cell? ⟨t0, 1, none⟩ = some (.string ⟨th.l.toArray⟩) := cell_of_block Kt0.out rfl
  have d2 : X10.cell? ⟨t0, 2, none⟩ = some (.slice aa0 th.ats.length ca0) := cell_of_block Kt0.out rfl
  have d3 : X10.cell? ⟨t0, 3, none⟩ = some (.int .i64 th.n) := cell_of_block Kt0.out rfl
  have d4 : X10.cell? ⟨t0, 4, none⟩ = some (.int .i64 th.d) := cell_of_block Kt0.out rfl
  have d5 : X10.cell? ⟨t0, 5, none⟩ = some (.string ⟨th.x.toArray⟩) := cell_of_block Kt0.out rfl
  have d6 : X10.cell? ⟨t0, 6, none⟩ = some (.slice ak0 tk.len ck0) := cell_of_block Kt0.out rfl
  go_wp2_with fail
  refine (I1.out X10 BX10 _ _ _ _ HA.out HK.out).mono ?_
  rintro e X11 ⟨vx, rfl, hF, hb11⟩
  have BX11 : Below w.heap.size w X11 := BX10.trans (hb11.mono BX10.size)
  have HA := Lib.hid (attrs_below HA.out hb11)
  have HK := Lib.hid (lies_below HK.out hb11)
  have Kt0 := Lib.hid ((hb11.block _ zt0).trans Kt0.out)
  have zt0 := Nat.lt_of_lt_of_le zt0 hb11.size
  have KtH := Lib.hid ((hb11.block _ ztH).trans KtH.out)
  have ztH := Nat.lt_of_lt_of_le ztH hb11.size
  have Hx := Lib.hid (liesF_lies hF)
  obtain ⟨ax, cx, rfl⟩ := liesF_form hF
  clear hF
  clear hb11
  clear d0 d1 d2 d3 d4 d5 d6
  have d0 : X11.cell? ⟨t0, 0, none⟩ = some (.int .i64 th.k) := cell_of_block Kt0.out rfl
  have d1 : X11.cell? ⟨t0, 1, none⟩ = some (.string ⟨th.l.toArray⟩) := cell_of_block Kt0.out rfl
  have d2 : X11.cell? ⟨t0, 2, none⟩ = some (.slice aa0 th.ats.length ca0) := cell_of_block Kt0.out rfl
  have d3 : X11.cell? ⟨t0, 3, none⟩ = some (.int .i64 th.n) := cell_of_block Kt0.out rfl
  have d4 : X11.cell? ⟨t0, 4, none⟩ = some (.int .i64 th.d) := cell_of_block Kt0.out rfl
  have d5 : X11.cell? ⟨t0, 5, none⟩ = some (.string ⟨th.x.toArray⟩) := cell_of_block Kt0.out rfl
  have d6 : X11.cell? ⟨t0, 6, none⟩ = some (.slice ak0 tk.len ck0) := cell_of_block Kt0.out rfl
  go_wp2_with fail
  refine (I2.out X11 BX11 _ _ _ _ HA.out HK.out).mono ?_
  rintro e X12 ⟨vy, rfl, hF, hb12⟩
  have BX12 : Below w.heap.size w X12 := BX11.trans (hb12.mono BX11.size)
  have HA := Lib.hid (attrs_below HA.out hb12)
  have HK := Lib.hid (lies_below HK.out hb12)
  have Hx := Lib.hid (lies_below Hx.out hb12)
  have Kt0 := Lib.hid ((hb12.block _ zt0).trans Kt0.out)
  have zt0 := Nat.lt_of_lt_of_le zt0 hb12.size
  have KtH := Lib.hid ((hb12.block _ ztH).trans KtH.out)
  have ztH := Nat.lt_of_lt_of_le ztH hb12.size
  have Hy := Lib.hid (liesF_lies hF)
  obtain ⟨ay, cy, rfl⟩ := liesF_form hF
  clear hF
  clear hb12
  clear d0 d1 d2 d3 d4 d5 d6
  go_wp2_with fail
  refine (SR.out _ _ _ X12 Hx.out Hy.out).mono ?_
  rintro e X13 ⟨rfl, hb13⟩
  have BX13 : Below w.heap.size w X13 := BX12.trans (hb13.mono BX12.size)
  have HA := Lib.hid (attrs_below HA.out hb13)
  have HK := Lib.hid (lies_below HK.out hb13)
  have Hx := Lib.hid (lies_below Hx.out hb13)
  have Hy := Lib.hid (lies_below Hy.out hb13)
  have Kt0 := Lib.hid ((hb13.block _ zt0).trans Kt0.out)
  have zt0 := Nat.lt_of_lt_of_le zt0 hb13.size
  have KtH := Lib.hid ((hb13.block _ ztH).trans KtH.out)
  have ztH := Nat.lt_of_lt_of_le ztH hb13.size
  clear hb13
  clear Hx Hy
  clear I1 I2 x2 Kt0 zt0
  clear HA HK
  go_wp2_with fail
  refine (C1.out X13 BX13).mono ?_
  rintro e X14 ⟨vx, rfl, hF, hb14⟩
  have BX14 : Below w.heap.size w X14 := BX13.trans (hb14.mono BX13.size)
  have KtH := Lib.hid ((hb14.block _ ztH).trans KtH.out)
  have ztH := Nat.lt_of_lt_of_le ztH hb14.size
  have Hx := Lib.hid (liesF_lies hF)
  obtain ⟨ax, cx, rfl⟩ := liesF_form hF
  clear hF
  clear hb14
  go_wp2_with fail
  refine (C2.out X14 BX14).mono ?_
  rintro e X15 ⟨vy, rfl, hF, hb15⟩
  have BX15 : Below w.heap.size w X15 := BX14.trans (hb15.mono BX14.size)
  have Hx := Lib.hid (lies_below Hx.out hb15)
  have KtH := Lib.hid ((hb15.block _ ztH).trans KtH.out)
  have ztH := Nat.lt_of_lt_of_le ztH hb15.size
  have Hy := Lib.hid (liesF_lies hF)
  obtain ⟨ay, cy, rfl⟩ := liesF_form hF
  clear hF
  clear hb15
  go_wp2_with fail
  refine (SR.out _ _ _ X15 Hx.out Hy.out).mono ?_
  rintro e X16 ⟨rfl, hb16⟩
  have BX16 : Below w.heap.size w X16 := BX15.trans (hb16.mono BX15.size)
  have Hx := Lib.hid (lies_below Hx.out hb16)
  have Hy := Lib.hid (lies_below Hy.out hb16)
  have KtH := Lib.hid ((hb16.block _ ztH).trans KtH.out)
  have ztH := Nat.lt_of_lt_of_le ztH hb16.size
  clear hb16
  clear Hx Hy
  clear C1 C2 x3
  go_wp2_with fail
  refine (K1.out X16 BX16).mono ?_
  rintro e X17 ⟨vx, rfl, hF, hb17⟩
  have BX17 : Below w.heap.size w X17 := BX16.trans (hb17.mono BX16.size)
  have KtH := Lib.hid ((hb17.block _ ztH).trans KtH.out)
  have ztH := Nat.lt_of_lt_of_le ztH hb17.size
  have Hx := Lib.hid (liesF_lies hF)
  obtain ⟨ax, cx, rfl⟩ := liesF_form hF
  clear hF
  clear hb17
  go_wp2_with fail
  refine (K2.out X17 BX17).mono ?_
  rintro e X18 ⟨vy, rfl, hF, hb18⟩
  have BX18 : Below w.heap.size w X18 := BX17.trans (hb18.mono BX17.size)
  have Hx := Lib.hid (lies_below Hx.out hb18)
  have KtH := Lib.hid ((hb18.block _ ztH).trans KtH.out)
  have ztH := Nat.lt_of_lt_of_le ztH hb18.size
  have Hy := Lib.hid (liesF_lies hF)
  obtain ⟨ay, cy, rfl⟩ := liesF_form hF
  clear hF
  clear hb18
  go_wp2_with fail
  refine (SR.out _ _ _ X18 Hx.out Hy.out).mono ?_
  rintro e X19 ⟨rfl, hb19⟩
  have BX19 : Below w.heap.size w X19 := BX18.trans (hb19.mono BX18.size)
  have Hx := Lib.hid (lies_below Hx.out hb19)
  have Hy := Lib.hid (lies_below Hy.out hb19)
  have KtH := Lib.hid ((hb19.block _ ztH).trans KtH.out)
  have ztH := Nat.lt_of_lt_of_le ztH hb19.size
  clear hb19
  clear Hx Hy
  clear K1 K2 x4
  have c0 : X19.cell? ⟨tH, 0, none⟩ = some (.int .i64 h.k) := cell_of_block KtH.out rfl
  have c1 : X19.cell? ⟨tH, 1, none⟩ = some (.string ⟨h.l.toArray⟩) := cell_of_block KtH.out rfl
  have c2 : X19.cell? ⟨tH, 2, none⟩ = some (.slice aah h.ats.length cah) := cell_of_block KtH.out rfl
  have c3 : X19.cell? ⟨tH, 3, none⟩ = some (.int .i64 h.n) := cell_of_block KtH.out rfl
  have c4 : X19.cell? ⟨tH, 4, none⟩ = some (.int .i64 h.d) := cell_of_block KtH.out rfl
  have c5 : X19.cell? ⟨tH, 5, none⟩ = some (.string ⟨h.x.toArray⟩) := cell_of_block KtH.out rfl
  go_wp2_with fail
  refine (W1.out X19 BX19).mono ?_
  rintro e X20 ⟨vx, rfl, hF, hb20⟩
  have BX20 : Below w.heap.size w X20 := BX19.trans (hb20.mono BX19.size)
  have KtH := Lib.hid ((hb20.block _ ztH).trans KtH.out)
  have ztH := Nat.lt_of_lt_of_le ztH hb20.size
  have Hx := Lib.hid (liesF_lies hF)
  obtain ⟨ax, cx, rfl⟩ := liesF_form hF
  clear hF
  clear hb20
  clear c0 c1 c2 c3 c4 c5
  have c0 : X20.cell? ⟨tH, 0, none⟩ = some (.int .i64 h.k) := cell_of_block KtH.out rfl
  have c1 : X20.cell? ⟨tH, 1, none⟩ = some (.string ⟨h.l.toArray⟩) := cell_of_block KtH.out rfl
  have c2 : X20.cell? ⟨tH, 2, none⟩ = some (.slice aah h.ats.length cah) := cell_of_block KtH.out rfl
  have c3 : X20.cell? ⟨tH, 3, none⟩ = some (.int .i64 h.n) := cell_of_block KtH.out rfl
  have c4 : X20.cell? ⟨tH, 4, none⟩ = some (.int .i64 h.d) := cell_of_block KtH.out rfl
  have c5 : X20.cell? ⟨tH, 5, none⟩ = some (.string ⟨h.x.toArray⟩) := cell_of_block KtH.out rfl
  go_wp2_with fail
  refine (W2.out X20 BX20).mono ?_
  rintro e X21 ⟨vy, rfl, hF, hb21⟩
  have BX21 : Below w.heap.size w X21 := BX20.trans (hb21.mono BX20.size)
  have Hx := Lib.hid (lies_below Hx.out hb21)
  have KtH := Lib.hid ((hb21.block _ ztH).trans KtH.out)
  have ztH := Nat.lt_of_lt_of_le ztH hb21.size
  have Hy := Lib.hid (liesF_lies hF)
  obtain ⟨ay, cy, rfl⟩ := liesF_form hF
  clear hF
  clear hb21
  clear c0 c1 c2 c3 c4 c5
  go_wp2_with fail
  refine (SR.out _ _ _ X21 Hx.out Hy.out).mono ?_
  rintro e X22 ⟨rfl, hb22⟩
  have BX22 : Below w.heap.size w X22 := BX21.trans (hb22.mono BX21.size)
  have Hx := Lib.hid (lies_below Hx.out hb22)
  have Hy := Lib.hid (lies_below Hy.out hb22)
  have KtH := Lib.hid ((hb22.block _ ztH).trans KtH.out)
  have ztH := Nat.lt_of_lt_of_le ztH hb22.size
  clear hb22
  clear Hx Hy
  clear W1 W2 x5 KtH ztH
  go_wp2_with fail
  refine (U1.out X22 BX22).mono ?_
  rintro e X23 ⟨ax, cx, rfl, hF, hb23⟩
  have BX23 : Below w.heap.size w X23 := BX22.trans (hb23.mono BX22.size)
  have Hx := Lib.hid (liesF_lies hF)
  clear hF
  clear hb23
  go_wp2_with fail
  refine (U2.out X23 BX23).mono ?_
  rintro e X24 ⟨ay, cy, rfl, hF, hb24⟩
  have BX24 : Below w.heap.size w X24 := BX23.trans (hb24.mono BX23.size)
  have Hx := Lib.hid (lies_below Hx.out hb24)
  have Hy := Lib.hid (liesF_lies hF)
  clear hF
  clear hb24
  go_wp2_with fail
  refine (SR.out _ _ _ X24 Hx.out Hy.out).mono ?_
  rintro e X25 ⟨rfl, hb25⟩
  have BX25 : Below w.heap.size w X25 := BX24.trans (hb25.mono BX24.size)
  have Hx := Lib.hid (lies_below Hx.out hb25)
  have Hy := Lib.hid (lies_below Hy.out hb25)
  clear hb25
  clear Hx Hy
  go_wp2_with fail
  refine (GR.out _).mono ?_
  rintro e X26 ⟨rfl, hb26⟩
  have BX26 : Below w.heap.size w X26 := BX25.trans (hb26.mono BX25.size)
  clear hb26
  go_wp2_with fail
  go_ret
  exact ⟨rfl, BX26⟩

theorem edits_law (f : Fo) (v : Value) (g : Fo) (u : Value) (p : List Int) (pv : Value) (th : Hd) (tk : Fo) (va vk : Value) (h : Hd) (vh : Value) (w : World) (hl : Lies w v f) (hg : Lies w u g) (hp : IntsLie w pv p) (ha : AttrsLie w va th.ats) (hk : Lies w vk tk) (hh : AttrsLie w vh h.ats) :
    Calls Tryz.prog 6 #[v, u, pv, treeA th va vk, hdA h vh] w fun e w' => e = .returned (.bool true) ∧ Below w.heap.size w w' := by
  cases h1 : great f with
  | true => exact edits_g1 f v g u p pv th tk va vk h vh w hl hg hp ha hk hh h1
  | false =>
    cases h2 : great g with
    | true => exact edits_g2 f v g u p pv th tk va vk h vh w hl hg hp ha hk hh h1 h2
    | false =>
      cases h3 : great (.cons th tk .nil) with
      | true => exact edits_g3 f v g u p pv th tk va vk h vh w hl hg hp ha hk hh h1 h2 h3
      | false =>
        cases h4 : greatHead h with
        | true => exact edits_g4 f v g u p pv th tk va vk h vh w hl hg hp ha hk hh h1 h2 h3 h4
        | false =>
          by_cases h5 : 60 < p.length
          · exact edits_g5 f v g u p pv th tk va vk h vh w hl hg hp ha hk hh h1 h2 h3 h4 h5
          · exact edits_go f v g u p pv th tk va vk h vh w hl hg hp ha hk hh h1 h2 h3 h4 (by omega)
end Go.Proofs.YtcgedpfolloinaaGreat

namespace Go.Proofs.YtcgedpfolloinaaGreat
open Go.ChangeShapes Go.WideShapes Go.ChangeAt Go.RowKit Go.Deep

theorem mem_all {H : Type} {P : Program} {e : TypeId} : ∀ {ds : List (DataW H)} {d : DataW H}, d ∈ ds → ∀ n ∈ d.weights P e, n ∈ DataW.weightsAll P e ds
  | d' :: r, d, hd, n, hn => by
    simp only [DataW.weightsAll, List.mem_append]
    rcases List.mem_cons.1 hd with rfl | hd
    · exact .inl hn
    · exact .inr (mem_all hd n hn)
theorem bytesAttr : Tryz.prog.bytesOf 81 = 32 := by kernel_rfl
theorem bytesTree : Tryz.prog.bytesOf 43 = 104 := by kernel_rfl
theorem cellsAttr : Tryz.prog.cellsOf 81 = 2 := by kernel_rfl
theorem cellsHead : Tryz.prog.cellsOf 27 = 6 := by kernel_rfl
theorem cellsTree : Tryz.prog.cellsOf 43 = 7 := by kernel_rfl
theorem cellsNumT : Tryz.prog.cellsOf 25 = 2 := by kernel_rfl
theorem cellsKind : Tryz.prog.cellsOf 22 = 1 := by kernel_rfl
theorem cellsStr : Tryz.prog.cellsOf 9 = 1 := by kernel_rfl
theorem cellsAttrs : Tryz.prog.cellsOf 23 = 1 := by kernel_rfl
theorem cellsTrees : Tryz.prog.cellsOf 28 = 1 := by kernel_rfl
theorem cellsInt : Tryz.prog.cellsOf 3 = 1 := by kernel_rfl
/-- no string, no slice of a datum is larger than memory. -/
def Fits {H : Type} (t : TypeId) (d : DataW H) : Prop := ∀ n ∈ d.weights Tryz.prog t, n ≤ reachBytes
theorem str_list (s : ByteArray) : ∃ l : List UInt8, s = ⟨l.toArray⟩ := ⟨s.data.toList, by cases s; simp⟩
theorem lt_of_cell' {w : World} {b o : Nat} {v : Value} (h : w.cell? ⟨b, o, none⟩ = some v) : b < w.heap.size := by
  by_cases hb : b < w.heap.size
  · exact hb
  · exfalso
    have : w.heap[b]? = none := Array.getElem?_eq_none (by omega)
    unfold World.cell? at h
    simp [this] at h

theorem tfields : ∃ a b, Tryz.prog.underlying 43 = some (.struct #[a, b]) ∧ a.type = 27 ∧ a.offset = 0 ∧ b.type = 28 ∧ b.offset = 6 := ⟨_, _, Tryz.underlying43, rfl, rfl, rfl, rfl⟩
theorem hfields : ∃ a b c d e, Tryz.prog.underlying 27 = some (.struct #[a, b, c, d, e]) ∧ (a.type = 22 ∧ a.offset = 0) ∧ (b.type = 9 ∧ b.offset = 1) ∧ (c.type = 23 ∧ c.offset = 2) ∧ (d.type = 25 ∧ d.offset = 3) ∧ (e.type = 9 ∧ e.offset = 5) :=
  ⟨_, _, _, _, _, Tryz.underlying27, ⟨rfl, rfl⟩, ⟨rfl, rfl⟩, ⟨rfl, rfl⟩, ⟨rfl, rfl⟩, ⟨rfl, rfl⟩⟩
theorem nfields : ∃ a b, Tryz.prog.underlying 25 = some (.struct #[a, b]) ∧ a.type = 3 ∧ a.offset = 0 ∧ b.type = 3 ∧ b.offset = 1 := ⟨_, _, Tryz.underlying25, rfl, rfl, rfl, rfl⟩
theorem afields : ∃ a b, Tryz.prog.underlying 81 = some (.struct #[a, b]) ∧ a.type = 9 ∧ a.offset = 0 ∧ b.type = 9 ∧ b.offset = 1 := ⟨_, _, Tryz.underlying81, rfl, rfl, rfl, rfl⟩

section
variable {H : Type} {enc : TypeId × Value → H} {W : World} {held : Bool}

set_option maxRecDepth 100000 in
theorem attrs_open {fuel : Nat} {v : Value} {x : DataW H × List MemPlace} (h : DataW.trod enc Tryz.prog W 0 (fun _ => true) held fuel 23 [v] = some x) (hf : Fits 23 x.1) : ∃ ats, AttrsLie W v ats := by
  obtain ⟨fa, fb, hu, ta, oa, tb, ob⟩ := afields
  rcases open_slice_pairs Tryz.underlying23 hu cellsAttr oa ob (by rw [ta]; exact cellsStr) (by rw [tb]; exact cellsStr) h with ⟨hcs, hx⟩ | ⟨a, len, cap, m, n, V0, V1, D0, D1, P0, P1, hcs, _, hle, hmax, hm, hx, hi⟩
  · simp at hcs
    subst hcs
    exact ⟨[], .inl ⟨_, _, rfl, rfl⟩⟩
  · simp at hcs
    subst hcs
    simp only [if_true] at hm
    by_cases h0 : len = 0
    · subst h0; exact ⟨[], .inl ⟨_, _, rfl, rfl⟩⟩
    · have hw : (len + (m - len)) * 32 ≤ reachBytes := by
        have := hf ((len + (m - len)) * Tryz.prog.bytesOf 81) (by
          subst hx
          simp only [DataW.weights, Tryz.underlying23]
          simp)
        rwa [bytesAttr] at this
      have hi' : ∀ i, i < len → ∃ x y : List UInt8, W.cell? (a.add (i * 2)) = some (.string ⟨x.toArray⟩) ∧ W.cell? (a.add (i * 2 + 1)) = some (.string ⟨y.toArray⟩) := by
        intro i hl
        obtain ⟨h1, h2, h3, h4⟩ := hi i (by omega)
        rw [ta] at h3
        rw [tb] at h4
        obtain ⟨x, e1, _, _⟩ := DataW.trod_string Tryz.underlying9 h3
        obtain ⟨y, e2, _, _⟩ := DataW.trod_string Tryz.underlying9 h4
        simp only [List.cons.injEq, and_true] at e1 e2
        obtain ⟨x, rfl⟩ := str_list x
        obtain ⟨y, rfl⟩ := str_list y
        exact ⟨x, y, by rw [h1, e1], by rw [h2, e2]⟩
      obtain ⟨b, off, spot⟩ := a
      obtain ⟨x0, y0, c0, _⟩ := hi' 0 (by omega)
      have hspot : spot = none := by simpa [Addr.add] using World.cell?_spot c0
      subst hspot
      have hb : b < W.heap.size := by
        rw [Go.WideShapes.add_plain] at c0
        exact lt_of_cell' c0
      have e : ∀ i, i < len → ∃ q : List UInt8 × List UInt8, W.cell? ⟨b, off + i * 2, none⟩ = some (.string ⟨q.1.toArray⟩) ∧ W.cell? ⟨b, off + i * 2 + 1, none⟩ = some (.string ⟨q.2.toArray⟩) := by
        intro i hl
        obtain ⟨x, y, h1, h2⟩ := hi' i hl
        rw [Go.WideShapes.add_plain] at h1 h2
        exact ⟨(x, y), h1, by rw [Nat.add_assoc]; exact h2⟩
      obtain ⟨q, hq⟩ := choose_lt e
      have hl : ((List.range len).map q).length = len := by simp
      refine ⟨(List.range len).map q, .inr ⟨b, off, cap, by rw [hl], by rw [hl]; exact hle, by rw [hl]; unfold reachBytes at hw; omega, hb, fun k hk => ?_⟩⟩
      have hk' : k < len := by rwa [hl] at hk
      have g : ((List.range len).map q).getD k ([], []) = q k := by
        rw [List.getD_eq_getElem?_getD]; simp [hk']
      rw [g]
      exact hq k hk'

set_option maxRecDepth 100000 in
theorem head_open {fuel : Nat} {cs : List Value} {x : DataW H × List MemPlace} (h : DataW.trod enc Tryz.prog W 0 (fun _ => true) held fuel 27 cs = some x) (hf : Fits 27 x.1) :
    ∃ (hd : Hd) (va : Value), cs = [.int .i64 hd.k, .string ⟨hd.l.toArray⟩, va, .int .i64 hd.n, .int .i64 hd.d, .string ⟨hd.x.toArray⟩] ∧ AttrsLie W va hd.ats := by
  obtain ⟨fa, fb, fc, fd, fe, hu, ⟨ta, oa⟩, ⟨tb, ob⟩, ⟨tc, oc⟩, ⟨td, od⟩, te, oe⟩ := hfields
  obtain ⟨xs, n, _, hx, hlen, hxl, hi⟩ := DataW.trod_struct hu h
  rw [cellsHead] at hlen
  obtain ⟨c0, c1, c2, c3, c4, c5, rfl⟩ : ∃ c0 c1 c2 c3 c4 c5, cs = [c0, c1, c2, c3, c4, c5] := by
    match cs, hlen with
    | [c0, c1, c2, c3, c4, c5], _ => exact ⟨c0, c1, c2, c3, c4, c5, rfl⟩
  obtain ⟨x0, x1, x2, x3, x4, rfl⟩ : ∃ x0 x1 x2 x3 x4, xs = [x0, x1, x2, x3, x4] := by
    match xs, hxl with
    | [x0, x1, x2, x3, x4], _ => exact ⟨x0, x1, x2, x3, x4, rfl⟩
  have i0 := hi 0 fa rfl
  have i1 := hi 1 fb rfl
  have i2 := hi 2 fc rfl
  have i3 := hi 3 fd rfl
  have i4 := hi 4 fe rfl
  rw [ta, oa, cellsKind] at i0
  rw [tb, ob, cellsStr] at i1
  rw [tc, oc, cellsAttrs] at i2
  rw [td, od, cellsNumT] at i3
  rw [te, oe, cellsStr] at i4
  simp at i0 i1 i2 i3 i4
  obtain ⟨k, e0, _, _⟩ := DataW.trod_int Tryz.underlying22 i0
  obtain ⟨l, e1, _, _⟩ := DataW.trod_string Tryz.underlying9 i1
  obtain ⟨t, e4, _, _⟩ := DataW.trod_string Tryz.underlying9 i4
  obtain ⟨ats, ha⟩ := attrs_open i2 (fun m hm => hf m (by
    subst hx
    simp only [DataW.weights, hu]
    refine DataW.weights_mem_each (j := 2) (t := 23) (d := x2.1) (by simp [tc]) (by simp) m hm))
  obtain ⟨na, nb, hun, tna, ona, tnb, onb⟩ := nfields
  obtain ⟨ys, n2, _, _, _, hyl, hj⟩ := DataW.trod_struct hun i3
  obtain ⟨y0, y1, rfl⟩ : ∃ y0 y1, ys = [y0, y1] := by
    match ys, hyl with
    | [y0, y1], _ => exact ⟨y0, y1, rfl⟩
  have j0 := hj 0 na rfl
  have j1 := hj 1 nb rfl
  rw [tna, ona, cellsInt] at j0
  rw [tnb, onb, cellsInt] at j1
  simp at j0 j1
  obtain ⟨n', g0, _, _⟩ := DataW.trod_int Tryz.underlying3 j0
  obtain ⟨d', g1, _, _⟩ := DataW.trod_int Tryz.underlying3 j1
  simp only [List.cons.injEq, and_true] at e0 e1 e4 g0 g1
  obtain ⟨l, rfl⟩ := str_list l
  obtain ⟨t, rfl⟩ := str_list t
  exact ⟨⟨k, l, ats, n', d', t⟩, c2, by rw [e0, e1, e4, g0, g1], ha⟩

def foOf : List (Hd × Fo) → Fo
  | [] => .nil
  | x :: r => .cons x.1 x.2 (foOf r)
theorem foOf_len : ∀ l : List (Hd × Fo), (foOf l).len = l.length
  | [] => rfl
  | x :: r => by simp only [foOf, Fo.len, List.length_cons, foOf_len r]
theorem foOf_row {b : Nat} : ∀ (l : List (Hd × Fo)) (o : Nat), (∀ k (hk : k < l.length), HdAt W (l[k]).1 b (o + k * 7) ∧ ∃ v, W.cell? ⟨b, o + k * 7 + 6, none⟩ = some v ∧ Lies W v (l[k]).2) → RowAt W (foOf l) b o
  | [], _, _ => trivial
  | x :: r, o, hk => by
    have h0 := hk 0 (by simp)
    simp only [Nat.zero_mul, Nat.add_zero, List.getElem_cons_zero] at h0
    refine rowAt_cons.2 ⟨h0.1, h0.2, foOf_row r (o + 7) fun k h => ?_⟩
    have := hk (k + 1) (by simpa using h)
    simp only [List.getElem_cons_succ] at this
    rw [show o + (k + 1) * 7 = o + 7 + k * 7 by omega] at this
    exact this
instance : Inhabited (Hd × Fo) := ⟨(⟨0, [], [], 0, 0, []⟩, .nil)⟩

set_option maxRecDepth 100000 in
theorem trees_open : ∀ (fuel : Nat) {v : Value} {x : DataW H × List MemPlace}, DataW.trod enc Tryz.prog W 0 (fun _ => true) held fuel 28 [v] = some x → Fits 28 x.1 → ∃ f, Lies W v f
  | 0, v, x, h, _ => by simp [DataW.trod] at h
  | 1, v, x, h, hf => by
    rcases DataW.trod_slice Tryz.underlying28 h with ⟨hcs, _⟩ | ⟨a, len, cap, elems, rest, n, hn, hcs, hx, _, hle, hmax, hlen, hel, hsp, _⟩
    · simp at hcs; subst hcs; exact ⟨.nil, .inl ⟨_, _, rfl, rfl⟩⟩
    · simp at hcs
      subst hcs
      obtain rfl : n = 0 := by omega
      cases len with
      | zero => exact ⟨.nil, .inl ⟨_, _, rfl, rfl⟩⟩
      | succ len =>
        have h0 := hel 0 (by omega)
        rw [List.getElem?_eq_getElem (by omega)] at h0
        obtain ⟨cs', _, h2⟩ := Option.bind_eq_some_iff.1 h0
        simp [DataW.trod] at h2
  | fuel + 2, v, x, h, hf => by
    rcases DataW.trod_slice Tryz.underlying28 h with ⟨hcs, _⟩ | ⟨a, len, cap, elems, rest, n, hn, hcs, hx, _, hle, hmax, hlen, hel, hsp, _⟩
    · simp at hcs; subst hcs; exact ⟨.nil, .inl ⟨_, _, rfl, rfl⟩⟩
    · simp at hcs
      subst hcs
      obtain rfl : n = fuel + 1 := by omega
      by_cases h0 : len = 0
      · subst h0; exact ⟨.nil, .inl ⟨_, _, rfl, rfl⟩⟩
      · have hw : (elems.length + rest.length) * 104 ≤ reachBytes := by
          have := hf ((elems.length + rest.length) * Tryz.prog.bytesOf 43) (by
            subst hx
            simp only [DataW.weights, Tryz.underlying28]
            simp)
          rwa [bytesTree] at this
        have hi' : ∀ i, i < len → ∃ q : Hd × Fo, (∃ va, W.cell? (a.add (i * 7)) = some (.int .i64 q.1.k) ∧ W.cell? (a.add (i * 7 + 1)) = some (.string ⟨q.1.l.toArray⟩) ∧ W.cell? (a.add (i * 7 + 2)) = some va ∧ AttrsLie W va q.1.ats ∧
            W.cell? (a.add (i * 7 + 3)) = some (.int .i64 q.1.n) ∧ W.cell? (a.add (i * 7 + 4)) = some (.int .i64 q.1.d) ∧ W.cell? (a.add (i * 7 + 5)) = some (.string ⟨q.1.x.toArray⟩)) ∧ ∃ vk, W.cell? (a.add (i * 7 + 6)) = some vk ∧ Lies W vk q.2 := by
          intro i hl
          have hi := hel i hl
          rw [cellsTree, List.getElem?_eq_getElem (by omega)] at hi
          obtain ⟨cs', hc, ht⟩ := Option.bind_eq_some_iff.1 hi
          obtain ⟨_, hcl, hcc⟩ := World.cells?_some hc
          obtain ⟨fa, fb, hu, ta, oa, tb, ob⟩ := tfields
          obtain ⟨xs, m, hm, hxx, _, hxl, hj⟩ := DataW.trod_struct hu ht
          obtain rfl : m = fuel := by omega
          obtain ⟨x0, x1, rfl⟩ : ∃ x0 x1, xs = [x0, x1] := by
            match xs, hxl with
            | [x0, x1], _ => exact ⟨x0, x1, rfl⟩
          obtain ⟨c0, c1, c2, c3, c4, c5, c6, rfl⟩ : ∃ c0 c1 c2 c3 c4 c5 c6, cs' = [c0, c1, c2, c3, c4, c5, c6] := by
            match cs', hcl with
            | [c0, c1, c2, c3, c4, c5, c6], _ => exact ⟨c0, c1, c2, c3, c4, c5, c6, rfl⟩
          have j0 := hj 0 fa rfl
          have j1 := hj 1 fb rfl
          rw [ta, oa, cellsHead] at j0
          rw [tb, ob, cellsTrees] at j1
          simp at j0 j1
          have hfit : Fits 43 (elems[i]).1 := fun n hn => hf n (by
            subst hx
            simp only [DataW.weights, Tryz.underlying28, List.mem_cons, List.mem_append]
            exact .inr (.inl (mem_all (by simp; exact ⟨_, List.getElem_mem _⟩) n hn)))
          rw [hxx] at hfit
          have hf0 : Fits 27 x0.1 := fun n hn => hfit n (by
            simp only [DataW.weights, hu]
            exact DataW.weights_mem_each (j := 0) (t := 27) (d := x0.1) (by simp [ta]) (by simp) n hn)
          have hf1 : Fits 28 x1.1 := fun n hn => hfit n (by
            simp only [DataW.weights, hu]
            exact DataW.weights_mem_each (j := 1) (t := 28) (d := x1.1) (by simp [tb]) (by simp) n hn)
          obtain ⟨hd, va, e, ha⟩ := head_open j0 hf0
          obtain ⟨ks, hk⟩ := trees_open m j1 hf1
          have g : ∀ k (hk : k < 7) u, [c0, c1, c2, c3, c4, c5, c6][k]? = some u → W.cell? (a.add (i * 7 + k)) = some u := fun k hk u hu => by
            rw [← Go.Deep.add_add]; exact (hcc k hk).trans hu
          simp only [List.cons.injEq, and_true] at e
          obtain ⟨rfl, rfl, rfl, rfl, rfl, rfl⟩ := e
          exact ⟨(hd, ks), ⟨c2, g 0 (by omega) _ rfl, g 1 (by omega) _ rfl, g 2 (by omega) _ rfl, ha, g 3 (by omega) _ rfl, g 4 (by omega) _ rfl, g 5 (by omega) _ rfl⟩, c6, g 6 (by omega) _ rfl, hk⟩
        obtain ⟨b, off, spot⟩ := a
        have hspot : spot = none := by
          obtain ⟨q, ⟨va, c0, _⟩, _⟩ := hi' 0 (by omega)
          simpa [Addr.add] using World.cell?_spot c0
        subst hspot
        obtain ⟨q, hq⟩ := choose_lt hi'
        have hb : b < W.heap.size := by
          obtain ⟨⟨va, c0, _⟩, _⟩ := hq 0 (by omega)
          rw [Go.WideShapes.add_plain] at c0
          exact lt_of_cell' c0
        have hl : (foOf ((List.range len).map q)).len = len := by rw [foOf_len]; simp
        refine ⟨foOf ((List.range len).map q), .inr ⟨b, off, cap, by rw [hl], by rw [hl]; exact hle, by rw [hl]; unfold reachBytes at hw; omega, hb, foOf_row _ off fun k hk => ?_⟩⟩
        have hk' : k < len := by simpa using hk
        obtain ⟨⟨va, c0, c1, c2, ha, c3, c4, c5⟩, vk, c6, hk6⟩ := hq k hk'
        rw [Go.WideShapes.add_plain] at c0 c1 c2 c3 c4 c5 c6
        simp only [List.getElem_map, List.getElem_range]
        exact ⟨⟨c0, by rw [Nat.add_assoc]; exact c1, ⟨va, by rw [Nat.add_assoc]; exact c2, ha⟩, by rw [Nat.add_assoc]; exact c3, by rw [Nat.add_assoc]; exact c4, by rw [Nat.add_assoc]; exact c5⟩, vk, by rw [Nat.add_assoc]; exact c6, hk6⟩
set_option maxRecDepth 100000 in
theorem tree_open {fuel : Nat} {cs : List Value} {x : DataW H × List MemPlace} (h : DataW.trod enc Tryz.prog W 0 (fun _ => true) held fuel 43 cs = some x) (hf : Fits 43 x.1) :
    ∃ (hd : Hd) (ks : Fo) (va vk : Value), cs = [.int .i64 hd.k, .string ⟨hd.l.toArray⟩, va, .int .i64 hd.n, .int .i64 hd.d, .string ⟨hd.x.toArray⟩, vk] ∧ AttrsLie W va hd.ats ∧ Lies W vk ks := by
  obtain ⟨fa, fb, hu, ta, oa, tb, ob⟩ := tfields
  obtain ⟨xs, m, _, hxx, hcl, hxl, hj⟩ := DataW.trod_struct hu h
  rw [cellsTree] at hcl
  obtain ⟨x0, x1, rfl⟩ : ∃ x0 x1, xs = [x0, x1] := by
    match xs, hxl with
    | [x0, x1], _ => exact ⟨x0, x1, rfl⟩
  obtain ⟨c0, c1, c2, c3, c4, c5, c6, rfl⟩ : ∃ c0 c1 c2 c3 c4 c5 c6, cs = [c0, c1, c2, c3, c4, c5, c6] := by
    match cs, hcl with
    | [c0, c1, c2, c3, c4, c5, c6], _ => exact ⟨c0, c1, c2, c3, c4, c5, c6, rfl⟩
  have j0 := hj 0 fa rfl
  have j1 := hj 1 fb rfl
  rw [ta, oa, cellsHead] at j0
  rw [tb, ob, cellsTrees] at j1
  simp at j0 j1
  rw [hxx] at hf
  have hf0 : Fits 27 x0.1 := fun n hn => hf n (by
    simp only [DataW.weights, hu]
    exact DataW.weights_mem_each (j := 0) (t := 27) (d := x0.1) (by simp [ta]) (by simp) n hn)
  have hf1 : Fits 28 x1.1 := fun n hn => hf n (by
    simp only [DataW.weights, hu]
    exact DataW.weights_mem_each (j := 1) (t := 28) (d := x1.1) (by simp [tb]) (by simp) n hn)
  obtain ⟨hd, va, e, ha⟩ := head_open j0 hf0
  obtain ⟨ks, hk⟩ := trees_open m j1 hf1
  simp only [List.cons.injEq, and_true] at e
  obtain ⟨rfl, rfl, rfl, rfl, rfl, rfl⟩ := e
  exact ⟨hd, ks, c2, c6, rfl, ha, hk⟩
end
end Go.Proofs.YtcgedpfolloinaaGreat
