/- What the proof of PrfTreeOrder rests on, part 12 of 13. -/
import Derived.Test.YtcgedpfolloinaaGreatPPrfTreeOrder11
namespace Go.Proofs.YtcgedpfolloinaaGreat
open Go.RowKit

theorem hdN_of {h : Hd} (hg : greatHead h = false) : hdN 60 h := by
  unfold greatHead at hg
  simp only [Bool.or_eq_false_iff, decide_eq_false_iff_not, List.any_eq_false, List.mem_range] at hg
  obtain ⟨g1, g2, g3⟩ := hg
  refine ⟨by omega, by omega, fun q hq => ?_⟩
  obtain ⟨j, hj, rfl⟩ := List.getElem_of_mem hq
  have := g1 j hj
  unfold greatAt at this
  simp only [Bool.or_eq_true, decide_eq_true_eq, List.getD_eq_getElem?_getD, List.getElem?_eq_getElem hj, Option.getD_some] at this
  omega
theorem foN_of : ∀ {f : Fo}, greatKids f = false → foN 60 f
  | .nil, _ => trivial
  | .cons h ks r, hg => by
    unfold greatKids at hg
    simp only [Bool.or_eq_false_iff] at hg
    exact ⟨hdN_of hg.1.1, foN_of hg.1.2.2.2, foN_of hg.2⟩
theorem kids_of {f : Fo} (hg : great f = false) : greatKids f = false := by
  unfold great at hg
  simp only [Bool.or_eq_false_iff] at hg
  exact hg.2.2
theorem foN_app {N : Nat} : ∀ {f g : Fo}, foN N f → foN N g → foN N (f.app g)
  | .nil, _, _, k => k
  | .cons _ _ _, _, h, k => ⟨h.1, h.2.1, foN_app h.2.2 k⟩
theorem small_app {f g : Fo} (gf : great f = false) (gg : great g = false) (h1 : f.size ≤ 50000) (h2 : g.size ≤ 50000) : Small (f.app g) :=
  small_foN (N := 100000) (Nat.le_refl _) (by rw [Fo.size_app]; omega) (foN_mono (by omega) (foN_app (foN_of (kids_of gf)) (foN_of (kids_of gg))))
theorem small_wrap {h : Hd} {f : Fo} (gh : greatHead h = false) (gf : great f = false) (h1 : f.size ≤ 50000) : Small (.cons h f .nil) :=
  small_foN (N := 100000) (Nat.le_refl _) (by simp only [Fo.size]; omega) ⟨(hdN_of gh).mono (by omega), foN_mono (by omega) (foN_of (kids_of gf)), trivial⟩
theorem heads_app : ∀ {f g : Fo}, headsErr f = 0 → headsErr g = 0 → headsErr (f.app g) = 0
  | .nil, _, _, k => k
  | .cons h ks r, g, e, k => by
    have he := e
    obtain ⟨eh, e2, ek, er⟩ := heads_parts e
    have := heads_app er k
    simp only [Fo.app, headsErr] at he ⊢
    rw [if_neg (by simpa using eh)] at he ⊢
    by_cases hc : h.k ≠ 0 ∧ ks.len ≠ 0
    · rw [if_pos hc] at he; cases he
    · rw [if_neg hc, if_neg (by simpa using ek)]; exact this
theorem heads_wrap {h : Hd} {f : Fo} (eh : headErr h = 0) (hk : h.k = 0) (ef : headsErr f = 0) : headsErr (.cons h f .nil) = 0 := by
  simp only [headsErr]
  rw [if_neg (by simpa using eh), if_neg (by simp [hk]), if_neg (by simpa using ef)]
theorem fo_good {f : Fo} (hb : bndErr f = 0) (e : headsErr f = 0) : foErr f = 0 := by
  unfold bndErr at hb
  unfold foErr
  by_cases h1 : 400 < f.size
  · rw [if_pos h1] at hb; cases hb
  rw [if_neg h1] at hb ⊢
  by_cases h2 : 40 < f.deep
  · rw [if_pos h2] at hb; cases hb
  rw [if_neg h2]; exact e
theorem fz (a b : Int) (h : a = 0) (k : b = 0) : firstNZ [a, b] = 0 := by rw [firstNZ_two, h, k]; rfl
theorem concat_ok {f g : Fo} (h1 : foErr f = 0) (h2 : foErr g = 0) : (concatV f g).2 = 0 → concatV f g = (f.app g, 0) ∧ foErr (f.app g) = 0 := by
  intro h
  unfold concatV at h ⊢
  rw [if_pos (fz _ _ h1 h2)] at h ⊢
  unfold inBnd at h ⊢
  by_cases hb : bndErr (f.app g) = 0
  · rw [if_pos hb]; exact ⟨rfl, fo_good hb (heads_app (heads_of h1) (heads_of h2))⟩
  · rw [if_neg hb] at h; exact absurd h hb
theorem wrap_ok {h : Hd} {f : Fo} (h2 : foErr f = 0) : (wrapV h f).2 = 0 → wrapV h f = (.cons h f .nil, 0) ∧ foErr (.cons h f .nil) = 0 ∧ headErr h = 0 := by
  intro hz
  unfold wrapV at hz ⊢
  by_cases h1 : firstNZ [headErr h, foErr f] = 0
  · rw [if_pos h1] at hz ⊢
    have he : headErr h = 0 := by
      rw [firstNZ_two] at h1
      by_cases hh : headErr h = 0
      · exact hh
      · rw [if_pos hh] at h1; exact h1
    by_cases hk : h.k = 0
    · rw [if_pos hk] at hz ⊢
      unfold inBnd at hz ⊢
      by_cases hb : bndErr (.cons h f .nil) = 0
      · rw [if_pos hb]; exact ⟨rfl, fo_good hb (heads_wrap he hk (heads_of h2)), he⟩
      · rw [if_neg hb] at hz; exact absurd hz hb
    · rw [if_neg hk] at hz; cases hz
  · rw [if_neg h1] at hz; exact absurd hz h1
theorem headErr_num (n d : Int) : headErr ⟨1, [], [], n, d, []⟩ = chk n d := by simp [headErr, strayB]
theorem cmpH_num (an ad bn bd : Int) : cmpH ⟨1, [], [], an, ad, []⟩ ⟨1, [], [], bn, bd, []⟩ = cmpT an ad bn bd := by
  unfold cmpH cmpT
  rw [headErr_num, headErr_num, firstNZ_two]
  by_cases h1 : chk an ad = 0
  · by_cases h2 : chk bn bd = 0
    · rw [if_pos (by rw [if_neg (by simpa using h1)]; exact h2), if_pos h1, if_pos h2, (headL_num (h := ⟨1, [], [], an, ad, []⟩) (i := ⟨1, [], [], bn, bd, []⟩) rfl rfl (by rw [headErr_num]; exact h1) (by rw [headErr_num]; exact h2)).1]
    · rw [if_neg (by rw [if_neg (by simpa using h1)]; exact h2), if_neg (by simpa using h1), if_pos h1, if_neg h2]
  · rw [if_pos h1, if_neg h1, if_neg h1]
theorem cmpF_ok {f g : Fo} (h1 : foErr f = 0) (h2 : foErr g = 0) : cmpF f g = (foL f g, 0) := by
  unfold cmpF; rw [if_pos (fz _ _ h1 h2)]

set_option maxRecDepth 100000 in
set_option maxHeartbeats 32000000 in
theorem order_any (f : Fo) (v : Value) (g : Fo) (u : Value) (j : Fo) (t : Value) (h : Hd) (va : Value) (an ad bn bd : Int) (w : World) (hl : Lies w v f) (hg : Lies w u g) (hj : Lies w t j) (ha : AttrsLie w va h.ats) :
    Calls Tryz.prog 11 #[v, u, t, hdA h va, .agg #[.int .i64 an, .int .i64 ad], .agg #[.int .i64 bn, .int .i64 bd]] w fun e w' => e = .returned (.bool true) ∧ Below w.heap.size w w' := by
  unfold hdA
  have GR := Lib.hid (fun w => grown_any w)
  have FF := Lib.hid (fun w1 (hw : Below w.heap.size w w1) => fit_any f v w1 (lies_below hl hw))
  have FG := Lib.hid (fun w1 (hw : Below w.heap.size w w1) => fit_any g u w1 (lies_below hg hw))
  have FJ := Lib.hid (fun w1 (hw : Below w.heap.size w w1) => fit_any j t w1 (lies_below hj hw))
  have GH := Lib.hid (fun w1 (hw : Below w.heap.size w w1) => greatHead_any h va w1 (attrs_below ha hw))
  obtain ⟨aa, ca, rfl⟩ := attrs_form ha
  obtain ⟨av, cv, rfl⟩ := lies_form hl
  obtain ⟨au, cu, rfl⟩ := lies_form hg
  obtain ⟨at', ct, rfl⟩ := lies_form hj
  cases h1 : fitB f with
  | false =>
    rw [h1] at FF
    clear hl hg hj ha h1
    go_enter Tryz.func11, Tryz.ntmps11
    go_upto_region 1 with fail

    have k0 : (((w.alloc (.cells #[.int .i64 h.k, .string ⟨h.l.toArray⟩, .slice aa h.ats.length ca, .int .i64 h.n, .int .i64 h.d, .string ⟨h.x.toArray⟩] 27)).alloc (.cells #[.int .i64 an, .int .i64 ad] 25)).alloc (.cells #[.int .i64 bn, .int .i64 bd] 25)).heap[w.heap.size]? = some (.cells #[.int .i64 h.k, .string ⟨h.l.toArray⟩, .slice aa h.ats.length ca, .int .i64 h.n, .int .i64 h.d, .string ⟨h.x.toArray⟩] 27) := (Below.heap_alloc _ _ _ (by simp <;> omega)).trans ((Below.heap_alloc _ _ _ (by simp)).trans (World.alloc_heap_new w (.cells #[.int .i64 h.k, .string ⟨h.l.toArray⟩, .slice aa h.ats.length ca, .int .i64 h.n, .int .i64 h.d, .string ⟨h.x.toArray⟩] 27)))
    have k1 : (((w.alloc (.cells #[.int .i64 h.k, .string ⟨h.l.toArray⟩, .slice aa h.ats.length ca, .int .i64 h.n, .int .i64 h.d, .string ⟨h.x.toArray⟩] 27)).alloc (.cells #[.int .i64 an, .int .i64 ad] 25)).alloc (.cells #[.int .i64 bn, .int .i64 bd] 25)).heap[w.heap.size + 1]? = some (.cells #[.int .i64 an, .int .i64 ad] 25) := (Below.heap_alloc _ _ _ (by simp)).trans (by have := World.alloc_heap_new (w.alloc (.cells #[.int .i64 h.k, .string ⟨h.l.toArray⟩, .slice aa h.ats.length ca, .int .i64 h.n, .int .i64 h.d, .string ⟨h.x.toArray⟩] 27)) (.cells #[.int .i64 an, .int .i64 ad] 25); rw [show (w.alloc (.cells #[.int .i64 h.k, .string ⟨h.l.toArray⟩, .slice aa h.ats.length ca, .int .i64 h.n, .int .i64 h.d, .string ⟨h.x.toArray⟩] 27)).heap.size = w.heap.size + 1 by simp] at this; exact this)
    have k2 : (((w.alloc (.cells #[.int .i64 h.k, .string ⟨h.l.toArray⟩, .slice aa h.ats.length ca, .int .i64 h.n, .int .i64 h.d, .string ⟨h.x.toArray⟩] 27)).alloc (.cells #[.int .i64 an, .int .i64 ad] 25)).alloc (.cells #[.int .i64 bn, .int .i64 bd] 25)).heap[w.heap.size + 2]? = some (.cells #[.int .i64 bn, .int .i64 bd] 25) := by
      have := World.alloc_heap_new ((w.alloc (.cells #[.int .i64 h.k, .string ⟨h.l.toArray⟩, .slice aa h.ats.length ca, .int .i64 h.n, .int .i64 h.d, .string ⟨h.x.toArray⟩] 27)).alloc (.cells #[.int .i64 an, .int .i64 ad] 25)) (.cells #[.int .i64 bn, .int .i64 bd] 25)
      rw [show ((w.alloc (.cells #[.int .i64 h.k, .string ⟨h.l.toArray⟩, .slice aa h.ats.length ca, .int .i64 h.n, .int .i64 h.d, .string ⟨h.x.toArray⟩] 27)).alloc (.cells #[.int .i64 an, .int .i64 ad] 25)).heap.size = w.heap.size + 2 by simp] at this
      exact this
    have BX0 : Below w.heap.size w (((w.alloc (.cells #[.int .i64 h.k, .string ⟨h.l.toArray⟩, .slice aa h.ats.length ca, .int .i64 h.n, .int .i64 h.d, .string ⟨h.x.toArray⟩] 27)).alloc (.cells #[.int .i64 an, .int .i64 ad] 25)).alloc (.cells #[.int .i64 bn, .int .i64 bd] 25)) := by ((repeat' (first | exact Below.refl _ _ | assumption | refine Below.setCell ?_ ?_ _ | refine bdrewN ?_ _ | refine Below.drew ?_ | refine Below.alloc ?_ ?_ _ | refine bbehind ?_ (by assumption) ?_)); all_goals first | (simp; done) | (simp; omega) | omega)
    have hs0 : w.heap.size + 3 ≤ (((w.alloc (.cells #[.int .i64 h.k, .string ⟨h.l.toArray⟩, .slice aa h.ats.length ca, .int .i64 h.n, .int .i64 h.d, .string ⟨h.x.toArray⟩] 27)).alloc (.cells #[.int .i64 an, .int .i64 ad] 25)).alloc (.cells #[.int .i64 bn, .int .i64 bd] 25)).heap.size := by simp
    generalize ((w.alloc (.cells #[.int .i64 h.k, .string ⟨h.l.toArray⟩, .slice aa h.ats.length ca, .int .i64 h.n, .int .i64 h.d, .string ⟨h.x.toArray⟩] 27)).alloc (.cells #[.int .i64 an, .int .i64 ad] 25)).alloc (.cells #[.int .i64 bn, .int .i64 bd] 25) = X0 at *
    have KA0 := Lib.hid k0
    have KB0 := Lib.hid k1
    have KC0 := Lib.hid k2
    clear k0 k1 k2
    go_wp2_with fail
    refine (FF.out X0 BX0).mono ?_
    rintro e X1 ⟨rfl, hb1⟩
    have BX1 : Below w.heap.size w X1 := BX0.trans (hb1.mono BX0.size)
    have hs1 : w.heap.size + 3 ≤ X1.heap.size := Nat.le_trans hs0 hb1.size
    have KA1 := Lib.hid ((hb1.block _ (by omega)).trans KA0.out)
    have KB1 := Lib.hid ((hb1.block _ (by omega)).trans KB0.out)
    have KC1 := Lib.hid ((hb1.block _ (by omega)).trans KC0.out)
    clear hb1
    go_wp2_with fail
    refine (GR.out _).mono ?_
    rintro e X2 ⟨rfl, hb2⟩
    have BX2 : Below w.heap.size w X2 := BX1.trans (hb2.mono BX1.size)
    have hs2 : w.heap.size + 3 ≤ X2.heap.size := Nat.le_trans hs1 hb2.size
    have KA2 := Lib.hid ((hb2.block _ (by omega)).trans KA1.out)
    have KB2 := Lib.hid ((hb2.block _ (by omega)).trans KB1.out)
    have KC2 := Lib.hid ((hb2.block _ (by omega)).trans KC1.out)
    clear hb2
    go_wp2_with fail
    go_ret
    exact ⟨rfl, BX2⟩
  | true =>
    rw [h1] at FF
    cases h2 : fitB g with
    | false =>
      rw [h2] at FG
      clear hl hg hj ha h1 h2
      go_enter Tryz.func11, Tryz.ntmps11
      go_upto_region 1 with fail

      have k0 : (((w.alloc (.cells #[.int .i64 h.k, .string ⟨h.l.toArray⟩, .slice aa h.ats.length ca, .int .i64 h.n, .int .i64 h.d, .string ⟨h.x.toArray⟩] 27)).alloc (.cells #[.int .i64 an, .int .i64 ad] 25)).alloc (.cells #[.int .i64 bn, .int .i64 bd] 25)).heap[w.heap.size]? = some (.cells #[.int .i64 h.k, .string ⟨h.l.toArray⟩, .slice aa h.ats.length ca, .int .i64 h.n, .int .i64 h.d, .string ⟨h.x.toArray⟩] 27) := (Below.heap_alloc _ _ _ (by simp <;> omega)).trans ((Below.heap_alloc _ _ _ (by simp)).trans (World.alloc_heap_new w (.cells #[.int .i64 h.k, .string ⟨h.l.toArray⟩, .slice aa h.ats.length ca, .int .i64 h.n, .int .i64 h.d, .string ⟨h.x.toArray⟩] 27)))
      have k1 : (((w.alloc (.cells #[.int .i64 h.k, .string ⟨h.l.toArray⟩, .slice aa h.ats.length ca, .int .i64 h.n, .int .i64 h.d, .string ⟨h.x.toArray⟩] 27)).alloc (.cells #[.int .i64 an, .int .i64 ad] 25)).alloc (.cells #[.int .i64 bn, .int .i64 bd] 25)).heap[w.heap.size + 1]? = some (.cells #[.int .i64 an, .int .i64 ad] 25) := (Below.heap_alloc _ _ _ (by simp)).trans (by have := World.alloc_heap_new (w.alloc (.cells #[.int .i64 h.k, .string ⟨h.l.toArray⟩, .slice aa h.ats.length ca, .int .i64 h.n, .int .i64 h.d, .string ⟨h.x.toArray⟩] 27)) (.cells #[.int .i64 an, .int .i64 ad] 25); rw [show (w.alloc (.cells #[.int .i64 h.k, .string ⟨h.l.toArray⟩, .slice aa h.ats.length ca, .int .i64 h.n, .int .i64 h.d, .string ⟨h.x.toArray⟩] 27)).heap.size = w.heap.size + 1 by simp] at this; exact this)
      have k2 : (((w.alloc (.cells #[.int .i64 h.k, .string ⟨h.l.toArray⟩, .slice aa h.ats.length ca, .int .i64 h.n, .int .i64 h.d, .string ⟨h.x.toArray⟩] 27)).alloc (.cells #[.int .i64 an, .int .i64 ad] 25)).alloc (.cells #[.int .i64 bn, .int .i64 bd] 25)).heap[w.heap.size + 2]? = some (.cells #[.int .i64 bn, .int .i64 bd] 25) := by
        have := World.alloc_heap_new ((w.alloc (.cells #[.int .i64 h.k, .string ⟨h.l.toArray⟩, .slice aa h.ats.length ca, .int .i64 h.n, .int .i64 h.d, .string ⟨h.x.toArray⟩] 27)).alloc (.cells #[.int .i64 an, .int .i64 ad] 25)) (.cells #[.int .i64 bn, .int .i64 bd] 25)
        rw [show ((w.alloc (.cells #[.int .i64 h.k, .string ⟨h.l.toArray⟩, .slice aa h.ats.length ca, .int .i64 h.n, .int .i64 h.d, .string ⟨h.x.toArray⟩] 27)).alloc (.cells #[.int .i64 an, .int .i64 ad] 25)).heap.size = w.heap.size + 2 by simp] at this
        exact this
      have BX0 : Below w.heap.size w (((w.alloc (.cells #[.int .i64 h.k, .string ⟨h.l.toArray⟩, .slice aa h.ats.length ca, .int .i64 h.n, .int .i64 h.d, .string ⟨h.x.toArray⟩] 27)).alloc (.cells #[.int .i64 an, .int .i64 ad] 25)).alloc (.cells #[.int .i64 bn, .int .i64 bd] 25)) := by ((repeat' (first | exact Below.refl _ _ | assumption | refine Below.setCell ?_ ?_ _ | refine bdrewN ?_ _ | refine Below.drew ?_ | refine Below.alloc ?_ ?_ _ | refine bbehind ?_ (by assumption) ?_)); all_goals first | (simp; done) | (simp; omega) | omega)
      have hs0 : w.heap.size + 3 ≤ (((w.alloc (.cells #[.int .i64 h.k, .string ⟨h.l.toArray⟩, .slice aa h.ats.length ca, .int .i64 h.n, .int .i64 h.d, .string ⟨h.x.toArray⟩] 27)).alloc (.cells #[.int .i64 an, .int .i64 ad] 25)).alloc (.cells #[.int .i64 bn, .int .i64 bd] 25)).heap.size := by simp
      generalize ((w.alloc (.cells #[.int .i64 h.k, .string ⟨h.l.toArray⟩, .slice aa h.ats.length ca, .int .i64 h.n, .int .i64 h.d, .string ⟨h.x.toArray⟩] 27)).alloc (.cells #[.int .i64 an, .int .i64 ad] 25)).alloc (.cells #[.int .i64 bn, .int .i64 bd] 25) = X0 at *
      have KA0 := Lib.hid k0
      have KB0 := Lib.hid k1
      have KC0 := Lib.hid k2
      clear k0 k1 k2
      go_wp2_with fail
      refine (FF.out X0 BX0).mono ?_
      rintro e X1 ⟨rfl, hb1⟩
      have BX1 : Below w.heap.size w X1 := BX0.trans (hb1.mono BX0.size)
      have hs1 : w.heap.size + 3 ≤ X1.heap.size := Nat.le_trans hs0 hb1.size
      have KA1 := Lib.hid ((hb1.block _ (by omega)).trans KA0.out)
      have KB1 := Lib.hid ((hb1.block _ (by omega)).trans KB0.out)
      have KC1 := Lib.hid ((hb1.block _ (by omega)).trans KC0.out)
      clear hb1
      go_wp2_with fail
      refine (FG.out X1 BX1).mono ?_
      rintro e X2 ⟨rfl, hb2⟩
      have BX2 : Below w.heap.size w X2 := BX1.trans (hb2.mono BX1.size)
      have hs2 : w.heap.size + 3 ≤ X2.heap.size := Nat.le_trans hs1 hb2.size
      have KA2 := Lib.hid ((hb2.block _ (by omega)).trans KA1.out)
      have KB2 := Lib.hid ((hb2.block _ (by omega)).trans KB1.out)
      have KC2 := Lib.hid ((hb2.block _ (by omega)).trans KC1.out)
      clear hb2
      go_wp2_with fail
      refine (GR.out _).mono ?_
      rintro e X3 ⟨rfl, hb3⟩
      have BX3 : Below w.heap.size w X3 := BX2.trans (hb3.mono BX2.size)
      have hs3 : w.heap.size + 3 ≤ X3.heap.size := Nat.le_trans hs2 hb3.size
      have KA3 := Lib.hid ((hb3.block _ (by omega)).trans KA2.out)
      have KB3 := Lib.hid ((hb3.block _ (by omega)).trans KB2.out)
      have KC3 := Lib.hid ((hb3.block _ (by omega)).trans KC2.out)
      clear hb3
      go_wp2_with fail
      go_ret
      exact ⟨rfl, BX3⟩
    | true =>
      rw [h2] at FG
      cases h3 : fitB j with
      | false =>
        rw [h3] at FJ
        clear hl hg hj ha h1 h2 h3
        go_enter Tryz.func11, Tryz.ntmps11
        go_upto_region 1 with fail

        have k0 : (((w.alloc (.cells #[.int .i64 h.k, .string ⟨h.l.toArray⟩, .slice aa h.ats.length ca, .int .i64 h.n, .int .i64 h.d, .string ⟨h.x.toArray⟩] 27)).alloc (.cells #[.int .i64 an, .int .i64 ad] 25)).alloc (.cells #[.int .i64 bn, .int .i64 bd] 25)).heap[w.heap.size]? = some (.cells #[.int .i64 h.k, .string ⟨h.l.toArray⟩, .slice aa h.ats.length ca, .int .i64 h.n, .int .i64 h.d, .string ⟨h.x.toArray⟩] 27) := (Below.heap_alloc _ _ _ (by simp <;> omega)).trans ((Below.heap_alloc _ _ _ (by simp)).trans (World.alloc_heap_new w (.cells #[.int .i64 h.k, .string ⟨h.l.toArray⟩, .slice aa h.ats.length ca, .int .i64 h.n, .int .i64 h.d, .string ⟨h.x.toArray⟩] 27)))
        have k1 : (((w.alloc (.cells #[.int .i64 h.k, .string ⟨h.l.toArray⟩, .slice aa h.ats.length ca, .int .i64 h.n, .int .i64 h.d, .string ⟨h.x.toArray⟩] 27)).alloc (.cells #[.int .i64 an, .int .i64 ad] 25)).alloc (.cells #[.int .i64 bn, .int .i64 bd] 25)).heap[w.heap.size + 1]? = some (.cells #[.int .i64 an, .int .i64 ad] 25) := (Below.heap_alloc _ _ _ (by simp)).trans (by have := World.alloc_heap_new (w.alloc (.cells #[.int .i64 h.k, .string ⟨h.l.toArray⟩, .slice aa h.ats.length ca, .int .i64 h.n, .int .i64 h.d, .string ⟨h.x.toArray⟩] 27)) (.cells #[.int .i64 an, .int .i64 ad] 25); rw [show (w.alloc (.cells #[.int .i64 h.k, .string ⟨h.l.toArray⟩, .slice aa h.ats.length ca, .int .i64 h.n, .int .i64 h.d, .string ⟨h.x.toArray⟩] 27)).heap.size = w.heap.size + 1 by simp] at this; exact this)
        have k2 : (((w.alloc (.cells #[.int .i64 h.k, .string ⟨h.l.toArray⟩, .slice aa h.ats.length ca, .int .i64 h.n, .int .i64 h.d, .string ⟨h.x.toArray⟩] 27)).alloc (.cells #[.int .i64 an, .int .i64 ad] 25)).alloc (.cells #[.int .i64 bn, .int .i64 bd] 25)).heap[w.heap.size + 2]? = some (.cells #[.int .i64 bn, .int .i64 bd] 25) := by
          have := World.alloc_heap_new ((w.alloc (.cells #[.int .i64 h.k, .string ⟨h.l.toArray⟩, .slice aa h.ats.length ca, .int .i64 h.n, .int .i64 h.d, .string ⟨h.x.toArray⟩] 27)).alloc (.cells #[.int .i64 an, .int .i64 ad] 25)) (.cells #[.int .i64 bn, .int .i64 bd] 25)
          rw [show ((w.alloc (.cells #[.int .i64 h.k, .string ⟨h.l.toArray⟩, .slice aa h.ats.length ca, .int .i64 h.n, .int .i64 h.d, .string ⟨h.x.toArray⟩] 27)).alloc (.cells #[.int .i64 an, .int .i64 ad] 25)).heap.size = w.heap.size + 2 by simp] at this
          exact this
        have BX0 : Below w.heap.size w (((w.alloc (.cells #[.int .i64 h.k, .string ⟨h.l.toArray⟩, .slice aa h.ats.length ca, .int .i64 h.n, .int .i64 h.d, .string ⟨h.x.toArray⟩] 27)).alloc (.cells #[.int .i64 an, .int .i64 ad] 25)).alloc (.cells #[.int .i64 bn, .int .i64 bd] 25)) := by ((repeat' (first | exact Below.refl _ _ | assumption | refine Below.setCell ?_ ?_ _ | refine bdrewN ?_ _ | refine Below.drew ?_ | refine Below.alloc ?_ ?_ _ | refine bbehind ?_ (by assumption) ?_)); all_goals first | (simp; done) | (simp; omega) | omega)
        have hs0 : w.heap.size + 3 ≤ (((w.alloc (.cells #[.int .i64 h.k, .string ⟨h.l.toArray⟩, .slice aa h.ats.length ca, .int .i64 h.n, .int .i64 h.d, .string ⟨h.x.toArray⟩] 27)).alloc (.cells #[.int .i64 an, .int .i64 ad] 25)).alloc (.cells #[.int .i64 bn, .int .i64 bd] 25)).heap.size := by simp
        generalize ((w.alloc (.cells #[.int .i64 h.k, .string ⟨h.l.toArray⟩, .slice aa h.ats.length ca, .int .i64 h.n, .int .i64 h.d, .string ⟨h.x.toArray⟩] 27)).alloc (.cells #[.int .i64 an, .int .i64 ad] 25)).alloc (.cells #[.int .i64 bn, .int .i64 bd] 25) = X0 at *
        have KA0 := Lib.hid k0
        have KB0 := Lib.hid k1
        have KC0 := Lib.hid k2
        clear k0 k1 k2
        go_wp2_with fail
        refine (FF.out X0 BX0).mono ?_
        rintro e X1 ⟨rfl, hb1⟩
        have BX1 : Below w.heap.size w X1 := BX0.trans (hb1.mono BX0.size)
        have hs1 : w.heap.size + 3 ≤ X1.heap.size := Nat.le_trans hs0 hb1.size
        have KA1 := Lib.hid ((hb1.block _ (by omega)).trans KA0.out)
        have KB1 := Lib.hid ((hb1.block _ (by omega)).trans KB0.out)
        have KC1 := Lib.hid ((hb1.block _ (by omega)).trans KC0.out)
        clear hb1
        go_wp2_with fail
        refine (FG.out X1 BX1).mono ?_
        rintro e X2 ⟨rfl, hb2⟩
        have BX2 : Below w.heap.size w X2 := BX1.trans (hb2.mono BX1.size)
        have hs2 : w.heap.size + 3 ≤ X2.heap.size := Nat.le_trans hs1 hb2.size
        have KA2 := Lib.hid ((hb2.block _ (by omega)).trans KA1.out)
        have KB2 := Lib.hid ((hb2.block _ (by omega)).trans KB1.out)
        have KC2 := Lib.hid ((hb2.block _ (by omega)).trans KC1.out)
        clear hb2
        go_wp2_with fail
        refine (FJ.out X2 BX2).mono ?_
        rintro e X3 ⟨rfl, hb3⟩
        have BX3 : Below w.heap.size w X3 := BX2.trans (hb3.mono BX2.size)
        have hs3 : w.heap.size + 3 ≤ X3.heap.size := Nat.le_trans hs2 hb3.size
        have KA3 := Lib.hid ((hb3.block _ (by omega)).trans KA2.out)
        have KB3 := Lib.hid ((hb3.block _ (by omega)).trans KB2.out)
        have KC3 := Lib.hid ((hb3.block _ (by omega)).trans KC2.out)
        clear hb3
        go_wp2_with fail
        refine (GR.out _).mono ?_
        rintro e X4 ⟨rfl, hb4⟩
        have BX4 : Below w.heap.size w X4 := BX3.trans (hb4.mono BX3.size)
        have hs4 : w.heap.size + 3 ≤ X4.heap.size := Nat.le_trans hs3 hb4.size
        have KA4 := Lib.hid ((hb4.block _ (by omega)).trans KA3.out)
        have KB4 := Lib.hid ((hb4.block _ (by omega)).trans KB3.out)
        have KC4 := Lib.hid ((hb4.block _ (by omega)).trans KC3.out)
        clear hb4
        go_wp2_with fail
        go_ret
        exact ⟨rfl, BX4⟩
      | true =>
        rw [h3] at FJ
        cases h4 : greatHead h with
        | true =>
          rw [h4] at GH
          clear hl hg hj ha h1 h2 h3 h4
          go_enter Tryz.func11, Tryz.ntmps11
          go_upto_region 1 with fail

          have k0 : (((w.alloc (.cells #[.int .i64 h.k, .string ⟨h.l.toArray⟩, .slice aa h.ats.length ca, .int .i64 h.n, .int .i64 h.d, .string ⟨h.x.toArray⟩] 27)).alloc (.cells #[.int .i64 an, .int .i64 ad] 25)).alloc (.cells #[.int .i64 bn, .int .i64 bd] 25)).heap[w.heap.size]? = some (.cells #[.int .i64 h.k, .string ⟨h.l.toArray⟩, .slice aa h.ats.length ca, .int .i64 h.n, .int .i64 h.d, .string ⟨h.x.toArray⟩] 27) := (Below.heap_alloc _ _ _ (by simp <;> omega)).trans ((Below.heap_alloc _ _ _ (by simp)).trans (World.alloc_heap_new w (.cells #[.int .i64 h.k, .string ⟨h.l.toArray⟩, .slice aa h.ats.length ca, .int .i64 h.n, .int .i64 h.d, .string ⟨h.x.toArray⟩] 27)))
          have k1 : (((w.alloc (.cells #[.int .i64 h.k, .string ⟨h.l.toArray⟩, .slice aa h.ats.length ca, .int .i64 h.n, .int .i64 h.d, .string ⟨h.x.toArray⟩] 27)).alloc (.cells #[.int .i64 an, .int .i64 ad] 25)).alloc (.cells #[.int .i64 bn, .int .i64 bd] 25)).heap[w.heap.size + 1]? = some (.cells #[.int .i64 an, .int .i64 ad] 25) := (Below.heap_alloc _ _ _ (by simp)).trans (by have := World.alloc_heap_new (w.alloc (.cells #[.int .i64 h.k, .string ⟨h.l.toArray⟩, .slice aa h.ats.length ca, .int .i64 h.n, .int .i64 h.d, .string ⟨h.x.toArray⟩] 27)) (.cells #[.int .i64 an, .int .i64 ad] 25); rw [show (w.alloc (.cells #[.int .i64 h.k, .string ⟨h.l.toArray⟩, .slice aa h.ats.length ca, .int .i64 h.n, .int .i64 h.d, .string ⟨h.x.toArray⟩] 27)).heap.size = w.heap.size + 1 by simp] at this; exact this)
          have k2 : (((w.alloc (.cells #[.int .i64 h.k, .string ⟨h.l.toArray⟩, .slice aa h.ats.length ca, .int .i64 h.n, .int .i64 h.d, .string ⟨h.x.toArray⟩] 27)).alloc (.cells #[.int .i64 an, .int .i64 ad] 25)).alloc (.cells #[.int .i64 bn, .int .i64 bd] 25)).heap[w.heap.size + 2]? = some (.cells #[.int .i64 bn, .int .i64 bd] 25) := by
            have := World.alloc_heap_new ((w.alloc (.cells #[.int .i64 h.k, .string ⟨h.l.toArray⟩, .slice aa h.ats.length ca, .int .i64 h.n, .int .i64 h.d, .string ⟨h.x.toArray⟩] 27)).alloc (.cells #[.int .i64 an, .int .i64 ad] 25)) (.cells #[.int .i64 bn, .int .i64 bd] 25)
            rw [show ((w.alloc (.cells #[.int .i64 h.k, .string ⟨h.l.toArray⟩, .slice aa h.ats.length ca, .int .i64 h.n, .int .i64 h.d, .string ⟨h.x.toArray⟩] 27)).alloc (.cells #[.int .i64 an, .int .i64 ad] 25)).heap.size = w.heap.size + 2 by simp] at this
            exact this
          have BX0 : Below w.heap.size w (((w.alloc (.cells #[.int .i64 h.k, .string ⟨h.l.toArray⟩, .slice aa h.ats.length ca, .int .i64 h.n, .int .i64 h.d, .string ⟨h.x.toArray⟩] 27)).alloc (.cells #[.int .i64 an, .int .i64 ad] 25)).alloc (.cells #[.int .i64 bn, .int .i64 bd] 25)) := by ((repeat' (first | exact Below.refl _ _ | assumption | refine Below.setCell ?_ ?_ _ | refine bdrewN ?_ _ | refine Below.drew ?_ | refine Below.alloc ?_ ?_ _ | refine bbehind ?_ (by assumption) ?_)); all_goals first | (simp; done) | (simp; omega) | omega)
          have hs0 : w.heap.size + 3 ≤ (((w.alloc (.cells #[.int .i64 h.k, .string ⟨h.l.toArray⟩, .slice aa h.ats.length ca, .int .i64 h.n, .int .i64 h.d, .string ⟨h.x.toArray⟩] 27)).alloc (.cells #[.int .i64 an, .int .i64 ad] 25)).alloc (.cells #[.int .i64 bn, .int .i64 bd] 25)).heap.size := by simp
          generalize ((w.alloc (.cells #[.int .i64 h.k, .string ⟨h.l.toArray⟩, .slice aa h.ats.length ca, .int .i64 h.n, .int .i64 h.d, .string ⟨h.x.toArray⟩] 27)).alloc (.cells #[.int .i64 an, .int .i64 ad] 25)).alloc (.cells #[.int .i64 bn, .int .i64 bd] 25) = X0 at *
          have KA0 := Lib.hid k0
          have KB0 := Lib.hid k1
          have KC0 := Lib.hid k2
          clear k0 k1 k2
          go_wp2_with fail
          refine (FF.out X0 BX0).mono ?_
          rintro e X1 ⟨rfl, hb1⟩
          have BX1 : Below w.heap.size w X1 := BX0.trans (hb1.mono BX0.size)
          have hs1 : w.heap.size + 3 ≤ X1.heap.size := Nat.le_trans hs0 hb1.size
          have KA1 := Lib.hid ((hb1.block _ (by omega)).trans KA0.out)
          have KB1 := Lib.hid ((hb1.block _ (by omega)).trans KB0.out)
          have KC1 := Lib.hid ((hb1.block _ (by omega)).trans KC0.out)
          clear hb1
          go_wp2_with fail
          refine (FG.out X1 BX1).mono ?_
          rintro e X2 ⟨rfl, hb2⟩
          have BX2 : Below w.heap.size w X2 := BX1.trans (hb2.mono BX1.size)
          have hs2 : w.heap.size + 3 ≤ X2.heap.size := Nat.le_trans hs1 hb2.size
          have KA2 := Lib.hid ((hb2.block _ (by omega)).trans KA1.out)
          have KB2 := Lib.hid ((hb2.block _ (by omega)).trans KB1.out)
          have KC2 := Lib.hid ((hb2.block _ (by omega)).trans KC1.out)
          clear hb2
          go_wp2_with fail
          refine (FJ.out X2 BX2).mono ?_
          rintro e X3 ⟨rfl, hb3⟩
          have BX3 : Below w.heap.size w X3 := BX2.trans (hb3.mono BX2.size)
          have hs3 : w.heap.size + 3 ≤ X3.heap.size := Nat.le_trans hs2 hb3.size
          have KA3 := Lib.hid ((hb3.block _ (by omega)).trans KA2.out)
          have KB3 := Lib.hid ((hb3.block _ (by omega)).trans KB2.out)
          have KC3 := Lib.hid ((hb3.block _ (by omega)).trans KC2.out)
          clear hb3
          have d0 := cell_of_block (o := 0) (v := .int .i64 h.k) KA3.out rfl
          have d1 := cell_of_block (o := 1) (v := .string ⟨h.l.toArray⟩) KA3.out rfl
          have d2 := cell_of_block (o := 2) (v := .slice aa h.ats.length ca) KA3.out rfl
          have d3 := cell_of_block (o := 3) (v := .int .i64 h.n) KA3.out rfl
          have d4 := cell_of_block (o := 4) (v := .int .i64 h.d) KA3.out rfl
          have d5 := cell_of_block (o := 5) (v := .string ⟨h.x.toArray⟩) KA3.out rfl
          go_wp2_with fail
          refine (GH.out X3 BX3).mono ?_
          rintro e X4 ⟨rfl, hb4⟩
          have BX4 : Below w.heap.size w X4 := BX3.trans (hb4.mono BX3.size)
          have hs4 : w.heap.size + 3 ≤ X4.heap.size := Nat.le_trans hs3 hb4.size
          have KA4 := Lib.hid ((hb4.block _ (by omega)).trans KA3.out)
          have KB4 := Lib.hid ((hb4.block _ (by omega)).trans KB3.out)
          have KC4 := Lib.hid ((hb4.block _ (by omega)).trans KC3.out)
          clear hb4 d0 d1 d2 d3 d4 d5
          go_wp2_with fail
          refine (GR.out _).mono ?_
          rintro e X5 ⟨rfl, hb5⟩
          have BX5 : Below w.heap.size w X5 := BX4.trans (hb5.mono BX4.size)
          have hs5 : w.heap.size + 3 ≤ X5.heap.size := Nat.le_trans hs4 hb5.size
          have KA5 := Lib.hid ((hb5.block _ (by omega)).trans KA4.out)
          have KB5 := Lib.hid ((hb5.block _ (by omega)).trans KB4.out)
          have KC5 := Lib.hid ((hb5.block _ (by omega)).trans KC4.out)
          clear hb5
          go_wp2_with fail
          go_ret
          exact ⟨rfl, BX5⟩
        | false =>
          rw [h4] at GH
          obtain ⟨g1, ef⟩ := fit_parts h1
          obtain ⟨g2, eg⟩ := fit_parts h2
          obtain ⟨g3, ej⟩ := fit_parts h3
          have SF := small_lies hl g1
          have SG := small_lies hg g2
          have SJ := small_lies hj g3
          have zf : f.size ≤ 600 := (small_of (lies_len hl) (bnd_lies hl) g1).1
          have zg : g.size ≤ 600 := (small_of (lies_len hg) (bnd_lies hg) g2).1
          have zj : j.size ≤ 600 := (small_of (lies_len hj) (bnd_lies hj) g3).1
          have FH := (hdFit_of h4).1
          have C1 := Lib.hid (fun w1 (hw : Below w.heap.size w w1) => by have := tcompare_any f g _ _ w1 (lies_below hl hw) (lies_below hg hw) SF SG; rw [cmpF_ok ef eg] at this; exact this)
          have C2 := Lib.hid (fun w1 (hw : Below w.heap.size w w1) => by have := tcompare_any g f _ _ w1 (lies_below hg hw) (lies_below hl hw) SG SF; rw [cmpF_ok eg ef, fo_swap f g (heads_of ef) (heads_of eg)] at this; exact this)
          have C3 := Lib.hid (fun w1 (hw : Below w.heap.size w w1) => by have := tcompare_any g j _ _ w1 (lies_below hg hw) (lies_below hj hw) SG SJ; rw [cmpF_ok eg ej] at this; exact this)
          have C4 := Lib.hid (fun w1 (hw : Below w.heap.size w w1) => by have := tcompare_any f j _ _ w1 (lies_below hl hw) (lies_below hj hw) SF SJ; rw [cmpF_ok ef ej] at this; exact this)
          have SM := Lib.hid (fun w1 (hw : Below w.heap.size w w1) => same_any f.size f g (Nat.le_refl _) _ _ w1 (lies_below hl hw) (lies_below hg hw))
          have P1 := Lib.hid (fun w1 (hw : Below w.heap.size w w1) => tconcat_any j f _ _ w1 (lies_below hj hw) (lies_below hl hw) SJ SF)
          have P2 := Lib.hid (fun w1 (hw : Below w.heap.size w w1) => tconcat_any j g _ _ w1 (lies_below hj hw) (lies_below hg hw) SJ SG)
          have W1 := Lib.hid (fun w1 (hw : Below w.heap.size w w1) => twrap_any h _ f _ w1 (attrs_below ha hw) (lies_below hl hw) FH SF)
          have W2 := Lib.hid (fun w1 (hw : Below w.heap.size w w1) => twrap_any h _ g _ w1 (attrs_below ha hw) (lies_below hg hw) FH SG)
          unfold hdA at W1 W2
          have NC := Lib.hid (fun w1 (_ : Below w.heap.size w w1) => cmp_any an ad bn bd w1)
          have HC := Lib.hid (fun w1 (_ : Below w.heap.size w w1) => by have := tcmpHeads_any ⟨1, [], [], an, ad, []⟩ ⟨1, [], [], bn, bd, []⟩ none none 0 0 w1 (.inl ⟨_, _, rfl, rfl⟩) (.inl ⟨_, _, rfl, rfl⟩) ⟨by simp, by simp, fun j hj => absurd hj (by simp)⟩ ⟨by simp, by simp, fun j hj => absurd hj (by simp)⟩; rw [cmpH_num] at this; exact this)
          generalize cmpT an ad bn bd = RT at *
          obtain ⟨rt, et⟩ := RT
          simp only at NC HC
          have O1 := Lib.hid (show ∀ v u w1, (concatV j f).2 = 0 → (concatV j g).2 = 0 → Lies w1 v (concatV j f).1 → Lies w1 u (concatV j g).1 → Calls Tryz.prog 29 #[v, u] w1 fun e w' => e = .returned (.tuple #[.int .i64 (foL f g), .int .i64 0]) ∧ Below w1.heap.size w1 w' from fun v u w1 z1 z2 l1 l2 => by
            obtain ⟨c1, c2⟩ := concat_ok ej ef z1
            obtain ⟨c3, c4⟩ := concat_ok ej eg z2
            rw [c1] at l1
            rw [c3] at l2
            have := tcompare_any _ _ v u w1 l1 l2 (small_app g3 g1 (by omega) (by omega)) (small_app g3 g2 (by omega) (by omega))
            rw [cmpF_ok c2 c4, fo_app j f g (heads_of ej)] at this
            exact this)
          have O2 := Lib.hid (show ∀ v u w1, (wrapV h f).2 = 0 → (wrapV h g).2 = 0 → Lies w1 v (wrapV h f).1 → Lies w1 u (wrapV h g).1 → Calls Tryz.prog 29 #[v, u] w1 fun e w' => e = .returned (.tuple #[.int .i64 (foL f g), .int .i64 0]) ∧ Below w1.heap.size w1 w' from fun v u w1 z1 z2 l1 l2 => by
            obtain ⟨c1, c2, c5⟩ := wrap_ok ef z1
            obtain ⟨c3, c4, -⟩ := wrap_ok eg z2
            rw [c1] at l1
            rw [c3] at l2
            have := tcompare_any _ _ v u w1 l1 l2 (small_wrap h4 g1 (by omega)) (small_wrap h4 g2 (by omega))
            rw [cmpF_ok c2 c4, fo_wrap h f g c5] at this
            exact this)
          have HRNG := fo_rng f g (heads_of ef) (heads_of eg)
          have HEQ : dec (f = g) = (foL f g == 0) := by
            by_cases hfg : f = g
            · rw [dec_pos hfg, hfg, fo_refl g (heads_of eg)]; rfl
            · rw [dec_neg hfg]
              symm
              rw [beq_eq_false_iff_ne]
              exact fun z => hfg (fo_eq f g (heads_of ef) (heads_of eg) z)
          have HON : foL f g = foL g j → foL f j = foL f g := fo_on (heads_of ef) (heads_of eg) (heads_of ej)
          rw [HEQ] at SM
          generalize concatV j f = Q1 at *
          generalize concatV j g = Q2 at *
          generalize wrapV h f = Q3 at *
          generalize wrapV h g = Q4 at *
          obtain ⟨q1, z1⟩ := Q1
          obtain ⟨q2, z2⟩ := Q2
          obtain ⟨q3, z3⟩ := Q3
          obtain ⟨q4, z4⟩ := Q4
          unfold FoE at P1 P2 W1 W2
          simp only at P1 P2 W1 W2 O1 O2
          generalize foL f g = k at *
          generalize foL g j = n at *
          generalize foL f j = l at *
          have hin : inB k (-1) 1 = true := by unfold inB; simp; omega
          have hw1 : IntKind.i64.wrap k = k := IntWalk.i64_in _ (by omega)
          have hw2 : IntKind.i64.wrap (- -k) = k := by rw [Int.neg_neg]; exact hw1
          have IN := Lib.hid (fun w1 => by have := in_any k (-1) 1 w1; rw [hin] at this; exact this)
          have hkk : (k != k) = false := by simp
          have hkk2 : ((k == 0) != (k == 0)) = false := by simp
          clear hl hg hj ha h1 h2 h3 h4 SF SG SJ FH ef eg ej g1 g2 g3 HEQ HRNG hin zf zg zj
          go_enter Tryz.func11, Tryz.ntmps11
          go_upto_region 1 with fail

          have k0 : (((w.alloc (.cells #[.int .i64 h.k, .string ⟨h.l.toArray⟩, .slice aa h.ats.length ca, .int .i64 h.n, .int .i64 h.d, .string ⟨h.x.toArray⟩] 27)).alloc (.cells #[.int .i64 an, .int .i64 ad] 25)).alloc (.cells #[.int .i64 bn, .int .i64 bd] 25)).heap[w.heap.size]? = some (.cells #[.int .i64 h.k, .string ⟨h.l.toArray⟩, .slice aa h.ats.length ca, .int .i64 h.n, .int .i64 h.d, .string ⟨h.x.toArray⟩] 27) := (Below.heap_alloc _ _ _ (by simp <;> omega)).trans ((Below.heap_alloc _ _ _ (by simp)).trans (World.alloc_heap_new w (.cells #[.int .i64 h.k, .string ⟨h.l.toArray⟩, .slice aa h.ats.length ca, .int .i64 h.n, .int .i64 h.d, .string ⟨h.x.toArray⟩] 27)))
          have k1 : (((w.alloc (.cells #[.int .i64 h.k, .string ⟨h.l.toArray⟩, .slice aa h.ats.length ca, .int .i64 h.n, .int .i64 h.d, .string ⟨h.x.toArray⟩] 27)).alloc (.cells #[.int .i64 an, .int .i64 ad] 25)).alloc (.cells #[.int .i64 bn, .int .i64 bd] 25)).heap[w.heap.size + 1]? = some (.cells #[.int .i64 an, .int .i64 ad] 25) := (Below.heap_alloc _ _ _ (by simp)).trans (by have := World.alloc_heap_new (w.alloc (.cells #[.int .i64 h.k, .string ⟨h.l.toArray⟩, .slice aa h.ats.length ca, .int .i64 h.n, .int .i64 h.d, .string ⟨h.x.toArray⟩] 27)) (.cells #[.int .i64 an, .int .i64 ad] 25); rw [show (w.alloc (.cells #[.int .i64 h.k, .string ⟨h.l.toArray⟩, .slice aa h.ats.length ca, .int .i64 h.n, .int .i64 h.d, .string ⟨h.x.toArray⟩] 27)).heap.size = w.heap.size + 1 by simp] at this; exact this)
          have k2 : (((w.alloc (.cells #[.int .i64 h.k, .string ⟨h.l.toArray⟩, .slice aa h.ats.length ca, .int .i64 h.n, .int .i64 h.d, .string ⟨h.x.toArray⟩] 27)).alloc (.cells #[.int .i64 an, .int .i64 ad] 25)).alloc (.cells #[.int .i64 bn, .int .i64 bd] 25)).heap[w.heap.size + 2]? = some (.cells #[.int .i64 bn, .int .i64 bd] 25) := by
            have := World.alloc_heap_new ((w.alloc (.cells #[.int .i64 h.k, .string ⟨h.l.toArray⟩, .slice aa h.ats.length ca, .int .i64 h.n, .int .i64 h.d, .string ⟨h.x.toArray⟩] 27)).alloc (.cells #[.int .i64 an, .int .i64 ad] 25)) (.cells #[.int .i64 bn, .int .i64 bd] 25)
            rw [show ((w.alloc (.cells #[.int .i64 h.k, .string ⟨h.l.toArray⟩, .slice aa h.ats.length ca, .int .i64 h.n, .int .i64 h.d, .string ⟨h.x.toArray⟩] 27)).alloc (.cells #[.int .i64 an, .int .i64 ad] 25)).heap.size = w.heap.size + 2 by simp] at this
            exact this
          have BX0 : Below w.heap.size w (((w.alloc (.cells #[.int .i64 h.k, .string ⟨h.l.toArray⟩, .slice aa h.ats.length ca, .int .i64 h.n, .int .i64 h.d, .string ⟨h.x.toArray⟩] 27)).alloc (.cells #[.int .i64 an, .int .i64 ad] 25)).alloc (.cells #[.int .i64 bn, .int .i64 bd] 25)) := by ((repeat' (first | exact Below.refl _ _ | assumption | refine Below.setCell ?_ ?_ _ | refine bdrewN ?_ _ | refine Below.drew ?_ | refine Below.alloc ?_ ?_ _ | refine bbehind ?_ (by assumption) ?_)); all_goals first | (simp; done) | (simp; omega) | omega)
          have hs0 : w.heap.size + 3 ≤ (((w.alloc (.cells #[.int .i64 h.k, .string ⟨h.l.toArray⟩, .slice aa h.ats.length ca, .int .i64 h.n, .int .i64 h.d, .string ⟨h.x.toArray⟩] 27)).alloc (.cells #[.int .i64 an, .int .i64 ad] 25)).alloc (.cells #[.int .i64 bn, .int .i64 bd] 25)).heap.size := by simp
          generalize ((w.alloc (.cells #[.int .i64 h.k, .string ⟨h.l.toArray⟩, .slice aa h.ats.length ca, .int .i64 h.n, .int .i64 h.d, .string ⟨h.x.toArray⟩] 27)).alloc (.cells #[.int .i64 an, .int .i64 ad] 25)).alloc (.cells #[.int .i64 bn, .int .i64 bd] 25) = X0 at *
          have KA0 := Lib.hid k0
          have KB0 := Lib.hid k1
          have KC0 := Lib.hid k2
          clear k0 k1 k2
          go_wp2_with fail
          refine (FF.out X0 BX0).mono ?_
          rintro e X1 ⟨rfl, hb1⟩
          have BX1 : Below w.heap.size w X1 := BX0.trans (hb1.mono BX0.size)
          have hs1 : w.heap.size + 3 ≤ X1.heap.size := Nat.le_trans hs0 hb1.size
          have KA1 := Lib.hid ((hb1.block _ (by omega)).trans KA0.out)
          have KB1 := Lib.hid ((hb1.block _ (by omega)).trans KB0.out)
          have KC1 := Lib.hid ((hb1.block _ (by omega)).trans KC0.out)
          clear hb1
          go_wp2_with fail
          refine (FG.out X1 BX1).mono ?_
          rintro e X2 ⟨rfl, hb2⟩
          have BX2 : Below w.heap.size w X2 := BX1.trans (hb2.mono BX1.size)
          have hs2 : w.heap.size + 3 ≤ X2.heap.size := Nat.le_trans hs1 hb2.size
          have KA2 := Lib.hid ((hb2.block _ (by omega)).trans KA1.out)
          have KB2 := Lib.hid ((hb2.block _ (by omega)).trans KB1.out)
          have KC2 := Lib.hid ((hb2.block _ (by omega)).trans KC1.out)
          clear hb2
          go_wp2_with fail
          refine (FJ.out X2 BX2).mono ?_
          rintro e X3 ⟨rfl, hb3⟩
          have BX3 : Below w.heap.size w X3 := BX2.trans (hb3.mono BX2.size)
          have hs3 : w.heap.size + 3 ≤ X3.heap.size := Nat.le_trans hs2 hb3.size
          have KA3 := Lib.hid ((hb3.block _ (by omega)).trans KA2.out)
          have KB3 := Lib.hid ((hb3.block _ (by omega)).trans KB2.out)
          have KC3 := Lib.hid ((hb3.block _ (by omega)).trans KC2.out)
          clear hb3
          have d0 := cell_of_block (o := 0) (v := .int .i64 h.k) KA3.out rfl
          have d1 := cell_of_block (o := 1) (v := .string ⟨h.l.toArray⟩) KA3.out rfl
          have d2 := cell_of_block (o := 2) (v := .slice aa h.ats.length ca) KA3.out rfl
          have d3 := cell_of_block (o := 3) (v := .int .i64 h.n) KA3.out rfl
          have d4 := cell_of_block (o := 4) (v := .int .i64 h.d) KA3.out rfl
          have d5 := cell_of_block (o := 5) (v := .string ⟨h.x.toArray⟩) KA3.out rfl
          go_wp2_with fail
          refine (GH.out X3 BX3).mono ?_
          rintro e X4 ⟨rfl, hb4⟩
          have BX4 : Below w.heap.size w X4 := BX3.trans (hb4.mono BX3.size)
          have hs4 : w.heap.size + 3 ≤ X4.heap.size := Nat.le_trans hs3 hb4.size
          have KA4 := Lib.hid ((hb4.block _ (by omega)).trans KA3.out)
          have KB4 := Lib.hid ((hb4.block _ (by omega)).trans KB3.out)
          have KC4 := Lib.hid ((hb4.block _ (by omega)).trans KC3.out)
          clear hb4 d0 d1 d2 d3 d4 d5
          go_wp2_with fail
          refine (C1.out X4 BX4).mono ?_
          rintro e X5 ⟨rfl, hb5⟩
          have BX5 : Below w.heap.size w X5 := BX4.trans (hb5.mono BX4.size)
          have hs5 : w.heap.size + 3 ≤ X5.heap.size := Nat.le_trans hs4 hb5.size
          have KA5 := Lib.hid ((hb5.block _ (by omega)).trans KA4.out)
          have KB5 := Lib.hid ((hb5.block _ (by omega)).trans KB4.out)
          have KC5 := Lib.hid ((hb5.block _ (by omega)).trans KC4.out)
          clear hb5
          go_wp2_with fail
          refine (C2.out X5 BX5).mono ?_
          rintro e X6 ⟨rfl, hb6⟩
          have BX6 : Below w.heap.size w X6 := BX5.trans (hb6.mono BX5.size)
          have hs6 : w.heap.size + 3 ≤ X6.heap.size := Nat.le_trans hs5 hb6.size
          have KA6 := Lib.hid ((hb6.block _ (by omega)).trans KA5.out)
          have KB6 := Lib.hid ((hb6.block _ (by omega)).trans KB5.out)
          have KC6 := Lib.hid ((hb6.block _ (by omega)).trans KC5.out)
          clear hb6
          go_wp2_with fail
          refine (C3.out X6 BX6).mono ?_
          rintro e X7 ⟨rfl, hb7⟩
          have BX7 : Below w.heap.size w X7 := BX6.trans (hb7.mono BX6.size)
          have hs7 : w.heap.size + 3 ≤ X7.heap.size := Nat.le_trans hs6 hb7.size
          have KA7 := Lib.hid ((hb7.block _ (by omega)).trans KA6.out)
          have KB7 := Lib.hid ((hb7.block _ (by omega)).trans KB6.out)
          have KC7 := Lib.hid ((hb7.block _ (by omega)).trans KC6.out)
          clear hb7
          go_wp2_with fail
          refine (C4.out X7 BX7).mono ?_
          rintro e X8 ⟨rfl, hb8⟩
          have BX8 : Below w.heap.size w X8 := BX7.trans (hb8.mono BX7.size)
          have hs8 : w.heap.size + 3 ≤ X8.heap.size := Nat.le_trans hs7 hb8.size
          have KA8 := Lib.hid ((hb8.block _ (by omega)).trans KA7.out)
          have KB8 := Lib.hid ((hb8.block _ (by omega)).trans KB7.out)
          have KC8 := Lib.hid ((hb8.block _ (by omega)).trans KC7.out)
          clear hb8
          go_wp2_with fail
          refine (IN.out _).mono ?_
          rintro e w' ⟨rfl, hw⟩
          obtain rfl := hw
          go_wp2_with fail
          refine (SM.out X8 BX8).mono ?_
          rintro e X9 ⟨rfl, hb9⟩
          have BX9 : Below w.heap.size w X9 := BX8.trans (hb9.mono BX8.size)
          have hs9 : w.heap.size + 3 ≤ X9.heap.size := Nat.le_trans hs8 hb9.size
          have KA9 := Lib.hid ((hb9.block _ (by omega)).trans KA8.out)
          have KB9 := Lib.hid ((hb9.block _ (by omega)).trans KB8.out)
          have KC9 := Lib.hid ((hb9.block _ (by omega)).trans KC8.out)
          clear hb9
          by_cases hkn : k = n
          · have hlk := HON hkn
            subst hlk
            subst hkn
            go_wp2_with fail
            refine (P1.out X9 BX9).mono ?_
            rintro e X10 ⟨x9, rfl, hx9, hb10⟩
            have BX10 : Below w.heap.size w X10 := BX9.trans (hb10.mono BX9.size)
            have hs10 : w.heap.size + 3 ≤ X10.heap.size := Nat.le_trans hs9 hb10.size
            have KA10 := Lib.hid ((hb10.block _ (by omega)).trans KA9.out)
            have KB10 := Lib.hid ((hb10.block _ (by omega)).trans KB9.out)
            have KC10 := Lib.hid ((hb10.block _ (by omega)).trans KC9.out)
            obtain ⟨ax9, cx9, rfl⟩ := liesF_form hx9
            have HX9 := Lib.hid (liesF_lies hx9)
            clear hb10 hx9
            go_wp2_with fail
            refine (P2.out X10 BX10).mono ?_
            rintro e X11 ⟨x10, rfl, hx10, hb11⟩
            have BX11 : Below w.heap.size w X11 := BX10.trans (hb11.mono BX10.size)
            have hs11 : w.heap.size + 3 ≤ X11.heap.size := Nat.le_trans hs10 hb11.size
            have KA11 := Lib.hid ((hb11.block _ (by omega)).trans KA10.out)
            have KB11 := Lib.hid ((hb11.block _ (by omega)).trans KB10.out)
            have KC11 := Lib.hid ((hb11.block _ (by omega)).trans KC10.out)
            obtain ⟨ax10, cx10, rfl⟩ := liesF_form hx10
            have HX10 := Lib.hid (liesF_lies hx10)
            have HXK := Lib.hid (lies_below HX9.out hb11)
            clear hb11 hx10
            by_cases hz1 : z1 = 0
            rotate_left
            · have bz : (z1 == 0) = false := by simpa using hz1
              clear hz1
              have d0 := cell_of_block (o := 0) (v := .int .i64 h.k) KA11.out rfl
              have d1 := cell_of_block (o := 1) (v := .string ⟨h.l.toArray⟩) KA11.out rfl
              have d2 := cell_of_block (o := 2) (v := .slice aa h.ats.length ca) KA11.out rfl
              have d3 := cell_of_block (o := 3) (v := .int .i64 h.n) KA11.out rfl
              have d4 := cell_of_block (o := 4) (v := .int .i64 h.d) KA11.out rfl
              have d5 := cell_of_block (o := 5) (v := .string ⟨h.x.toArray⟩) KA11.out rfl
              go_wp2_with fail
              refine (W1.out X11 BX11).mono ?_
              rintro e X12 ⟨x11, rfl, hx11, hb12⟩
              have BX12 : Below w.heap.size w X12 := BX11.trans (hb12.mono BX11.size)
              have hs12 : w.heap.size + 3 ≤ X12.heap.size := Nat.le_trans hs11 hb12.size
              have KA12 := Lib.hid ((hb12.block _ (by omega)).trans KA11.out)
              have KB12 := Lib.hid ((hb12.block _ (by omega)).trans KB11.out)
              have KC12 := Lib.hid ((hb12.block _ (by omega)).trans KC11.out)
              obtain ⟨ax11, cx11, rfl⟩ := liesF_form hx11
              have HX11 := Lib.hid (liesF_lies hx11)
              clear hb12 d0 d1 d2 d3 d4 d5 hx11
              have d0 := cell_of_block (o := 0) (v := .int .i64 h.k) KA12.out rfl
              have d1 := cell_of_block (o := 1) (v := .string ⟨h.l.toArray⟩) KA12.out rfl
              have d2 := cell_of_block (o := 2) (v := .slice aa h.ats.length ca) KA12.out rfl
              have d3 := cell_of_block (o := 3) (v := .int .i64 h.n) KA12.out rfl
              have d4 := cell_of_block (o := 4) (v := .int .i64 h.d) KA12.out rfl
              have d5 := cell_of_block (o := 5) (v := .string ⟨h.x.toArray⟩) KA12.out rfl
              go_wp2_with fail
              refine (W2.out X12 BX12).mono ?_
              rintro e X13 ⟨x12, rfl, hx12, hb13⟩
              have BX13 : Below w.heap.size w X13 := BX12.trans (hb13.mono BX12.size)
              have hs13 : w.heap.size + 3 ≤ X13.heap.size := Nat.le_trans hs12 hb13.size
              have KA13 := Lib.hid ((hb13.block _ (by omega)).trans KA12.out)
              have KB13 := Lib.hid ((hb13.block _ (by omega)).trans KB12.out)
              have KC13 := Lib.hid ((hb13.block _ (by omega)).trans KC12.out)
              obtain ⟨ax12, cx12, rfl⟩ := liesF_form hx12
              have HX12 := Lib.hid (liesF_lies hx12)
              have HXK := Lib.hid (lies_below HX11.out hb13)
              clear hb13 d0 d1 d2 d3 d4 d5 hx12
              by_cases hz1 : z3 = 0
              rotate_left
              · have bz : (z3 == 0) = false := by simpa using hz1
                clear hz1
                have d0 := cell_of_block (o := 0) (v := .int .i64 an) KB13.out rfl
                have d1 := cell_of_block (o := 1) (v := .int .i64 ad) KB13.out rfl
                have d2 := cell_of_block (o := 0) (v := .int .i64 bn) KC13.out rfl
                have d3 := cell_of_block (o := 1) (v := .int .i64 bd) KC13.out rfl
                go_wp2_with fail
                refine (NC.out X13 BX13).mono ?_
                rintro e X14 ⟨rfl, hb14⟩
                have BX14 : Below w.heap.size w X14 := BX13.trans (hb14.mono BX13.size)
                have hs14 : w.heap.size + 3 ≤ X14.heap.size := Nat.le_trans hs13 hb14.size
                have KA14 := Lib.hid ((hb14.block _ (by omega)).trans KA13.out)
                have KB14 := Lib.hid ((hb14.block _ (by omega)).trans KB13.out)
                have KC14 := Lib.hid ((hb14.block _ (by omega)).trans KC13.out)
                clear hb14 d0 d1 d2 d3
                have d0 := cell_of_block (o := 0) (v := .int .i64 an) KB14.out rfl
                have d1 := cell_of_block (o := 1) (v := .int .i64 ad) KB14.out rfl
                have d2 := cell_of_block (o := 0) (v := .int .i64 bn) KC14.out rfl
                have d3 := cell_of_block (o := 1) (v := .int .i64 bd) KC14.out rfl
                go_wp2_with fail
                refine (HC.out X14 BX14).mono ?_
                rintro e X15 ⟨rfl, hb15⟩
                have BX15 : Below w.heap.size w X15 := BX14.trans (hb15.mono BX14.size)
                have hs15 : w.heap.size + 3 ≤ X15.heap.size := Nat.le_trans hs14 hb15.size
                have KA15 := Lib.hid ((hb15.block _ (by omega)).trans KA14.out)
                have KB15 := Lib.hid ((hb15.block _ (by omega)).trans KB14.out)
                have KC15 := Lib.hid ((hb15.block _ (by omega)).trans KC14.out)
                clear hb15 d0 d1 d2 d3
                go_wp2_with fail
                refine (GR.out _).mono ?_
                rintro e X16 ⟨rfl, hb16⟩
                have BX16 : Below w.heap.size w X16 := BX15.trans (hb16.mono BX15.size)
                have hs16 : w.heap.size + 3 ≤ X16.heap.size := Nat.le_trans hs15 hb16.size
                have KA16 := Lib.hid ((hb16.block _ (by omega)).trans KA15.out)
                have KB16 := Lib.hid ((hb16.block _ (by omega)).trans KB15.out)
                have KC16 := Lib.hid ((hb16.block _ (by omega)).trans KC15.out)
                clear hb16
                go_wp2_with fail
                go_ret
                exact ⟨rfl, BX16⟩
              by_cases hz2 : z4 = 0
              rotate_left
              · have bz : (z3 == 0) = true := by simpa using hz1
                have bz2 : (z4 == 0) = false := by simpa using hz2
                clear hz1 hz2
                have d0 := cell_of_block (o := 0) (v := .int .i64 an) KB13.out rfl
                have d1 := cell_of_block (o := 1) (v := .int .i64 ad) KB13.out rfl
                have d2 := cell_of_block (o := 0) (v := .int .i64 bn) KC13.out rfl
                have d3 := cell_of_block (o := 1) (v := .int .i64 bd) KC13.out rfl
                go_wp2_with fail
                refine (NC.out X13 BX13).mono ?_
                rintro e X14 ⟨rfl, hb14⟩
                have BX14 : Below w.heap.size w X14 := BX13.trans (hb14.mono BX13.size)
                have hs14 : w.heap.size + 3 ≤ X14.heap.size := Nat.le_trans hs13 hb14.size
                have KA14 := Lib.hid ((hb14.block _ (by omega)).trans KA13.out)
                have KB14 := Lib.hid ((hb14.block _ (by omega)).trans KB13.out)
                have KC14 := Lib.hid ((hb14.block _ (by omega)).trans KC13.out)
                clear hb14 d0 d1 d2 d3
                have d0 := cell_of_block (o := 0) (v := .int .i64 an) KB14.out rfl
                have d1 := cell_of_block (o := 1) (v := .int .i64 ad) KB14.out rfl
                have d2 := cell_of_block (o := 0) (v := .int .i64 bn) KC14.out rfl
                have d3 := cell_of_block (o := 1) (v := .int .i64 bd) KC14.out rfl
                go_wp2_with fail
                refine (HC.out X14 BX14).mono ?_
                rintro e X15 ⟨rfl, hb15⟩
                have BX15 : Below w.heap.size w X15 := BX14.trans (hb15.mono BX14.size)
                have hs15 : w.heap.size + 3 ≤ X15.heap.size := Nat.le_trans hs14 hb15.size
                have KA15 := Lib.hid ((hb15.block _ (by omega)).trans KA14.out)
                have KB15 := Lib.hid ((hb15.block _ (by omega)).trans KB14.out)
                have KC15 := Lib.hid ((hb15.block _ (by omega)).trans KC14.out)
                clear hb15 d0 d1 d2 d3
                go_wp2_with fail
                refine (GR.out _).mono ?_
                rintro e X16 ⟨rfl, hb16⟩
                have BX16 : Below w.heap.size w X16 := BX15.trans (hb16.mono BX15.size)
                have hs16 : w.heap.size + 3 ≤ X16.heap.size := Nat.le_trans hs15 hb16.size
                have KA16 := Lib.hid ((hb16.block _ (by omega)).trans KA15.out)
                have KB16 := Lib.hid ((hb16.block _ (by omega)).trans KB15.out)
                have KC16 := Lib.hid ((hb16.block _ (by omega)).trans KC15.out)
                clear hb16
                go_wp2_with fail
                go_ret
                exact ⟨rfl, BX16⟩
              have bz : (z3 == 0) = true := by simpa using hz1
              have bz2 : (z4 == 0) = true := by simpa using hz2
              have OC := Lib.hid (O2.out _ _ _ hz1 hz2 HXK.out HX12.out)
              clear hz1 hz2
              go_wp2_with fail
              refine (OC.out).mono ?_
              rintro e X14 ⟨rfl, hb14⟩
              have BX14 : Below w.heap.size w X14 := BX13.trans (hb14.mono BX13.size)
              have hs14 : w.heap.size + 3 ≤ X14.heap.size := Nat.le_trans hs13 hb14.size
              have KA14 := Lib.hid ((hb14.block _ (by omega)).trans KA13.out)
              have KB14 := Lib.hid ((hb14.block _ (by omega)).trans KB13.out)
              have KC14 := Lib.hid ((hb14.block _ (by omega)).trans KC13.out)
              clear bz bz2 OC HXK
              clear hb14
              have d0 := cell_of_block (o := 0) (v := .int .i64 an) KB14.out rfl
              have d1 := cell_of_block (o := 1) (v := .int .i64 ad) KB14.out rfl
              have d2 := cell_of_block (o := 0) (v := .int .i64 bn) KC14.out rfl
              have d3 := cell_of_block (o := 1) (v := .int .i64 bd) KC14.out rfl
              go_wp2_with fail
              refine (NC.out X14 BX14).mono ?_
              rintro e X15 ⟨rfl, hb15⟩
              have BX15 : Below w.heap.size w X15 := BX14.trans (hb15.mono BX14.size)
              have hs15 : w.heap.size + 3 ≤ X15.heap.size := Nat.le_trans hs14 hb15.size
              have KA15 := Lib.hid ((hb15.block _ (by omega)).trans KA14.out)
              have KB15 := Lib.hid ((hb15.block _ (by omega)).trans KB14.out)
              have KC15 := Lib.hid ((hb15.block _ (by omega)).trans KC14.out)
              clear hb15 d0 d1 d2 d3
              have d0 := cell_of_block (o := 0) (v := .int .i64 an) KB15.out rfl
              have d1 := cell_of_block (o := 1) (v := .int .i64 ad) KB15.out rfl
              have d2 := cell_of_block (o := 0) (v := .int .i64 bn) KC15.out rfl
              have d3 := cell_of_block (o := 1) (v := .int .i64 bd) KC15.out rfl
              go_wp2_with fail
              refine (HC.out X15 BX15).mono ?_
              rintro e X16 ⟨rfl, hb16⟩
              have BX16 : Below w.heap.size w X16 := BX15.trans (hb16.mono BX15.size)
              have hs16 : w.heap.size + 3 ≤ X16.heap.size := Nat.le_trans hs15 hb16.size
              have KA16 := Lib.hid ((hb16.block _ (by omega)).trans KA15.out)
              have KB16 := Lib.hid ((hb16.block _ (by omega)).trans KB15.out)
              have KC16 := Lib.hid ((hb16.block _ (by omega)).trans KC15.out)
              clear hb16 d0 d1 d2 d3
              go_wp2_with fail
              refine (GR.out _).mono ?_
              rintro e X17 ⟨rfl, hb17⟩
              have BX17 : Below w.heap.size w X17 := BX16.trans (hb17.mono BX16.size)
              have hs17 : w.heap.size + 3 ≤ X17.heap.size := Nat.le_trans hs16 hb17.size
              have KA17 := Lib.hid ((hb17.block _ (by omega)).trans KA16.out)
              have KB17 := Lib.hid ((hb17.block _ (by omega)).trans KB16.out)
              have KC17 := Lib.hid ((hb17.block _ (by omega)).trans KC16.out)
              clear hb17
              go_wp2_with fail
              go_ret
              exact ⟨rfl, BX17⟩
            by_cases hz2 : z2 = 0
            rotate_left
            · have bz : (z1 == 0) = true := by simpa using hz1
              have bz2 : (z2 == 0) = false := by simpa using hz2
              clear hz1 hz2
              have d0 := cell_of_block (o := 0) (v := .int .i64 h.k) KA11.out rfl
              have d1 := cell_of_block (o := 1) (v := .string ⟨h.l.toArray⟩) KA11.out rfl
              have d2 := cell_of_block (o := 2) (v := .slice aa h.ats.length ca) KA11.out rfl
              have d3 := cell_of_block (o := 3) (v := .int .i64 h.n) KA11.out rfl
              have d4 := cell_of_block (o := 4) (v := .int .i64 h.d) KA11.out rfl
              have d5 := cell_of_block (o := 5) (v := .string ⟨h.x.toArray⟩) KA11.out rfl
              go_wp2_with fail
              refine (W1.out X11 BX11).mono ?_
              rintro e X12 ⟨x11, rfl, hx11, hb12⟩
              have BX12 : Below w.heap.size w X12 := BX11.trans (hb12.mono BX11.size)
              have hs12 : w.heap.size + 3 ≤ X12.heap.size := Nat.le_trans hs11 hb12.size
              have KA12 := Lib.hid ((hb12.block _ (by omega)).trans KA11.out)
              have KB12 := Lib.hid ((hb12.block _ (by omega)).trans KB11.out)
              have KC12 := Lib.hid ((hb12.block _ (by omega)).trans KC11.out)
              obtain ⟨ax11, cx11, rfl⟩ := liesF_form hx11
              have HX11 := Lib.hid (liesF_lies hx11)
              clear hb12 d0 d1 d2 d3 d4 d5 hx11
              have d0 := cell_of_block (o := 0) (v := .int .i64 h.k) KA12.out rfl
              have d1 := cell_of_block (o := 1) (v := .string ⟨h.l.toArray⟩) KA12.out rfl
              have d2 := cell_of_block (o := 2) (v := .slice aa h.ats.length ca) KA12.out rfl
              have d3 := cell_of_block (o := 3) (v := .int .i64 h.n) KA12.out rfl
              have d4 := cell_of_block (o := 4) (v := .int .i64 h.d) KA12.out rfl
              have d5 := cell_of_block (o := 5) (v := .string ⟨h.x.toArray⟩) KA12.out rfl
              go_wp2_with fail
              refine (W2.out X12 BX12).mono ?_
              rintro e X13 ⟨x12, rfl, hx12, hb13⟩
              have BX13 : Below w.heap.size w X13 := BX12.trans (hb13.mono BX12.size)
              have hs13 : w.heap.size + 3 ≤ X13.heap.size := Nat.le_trans hs12 hb13.size
              have KA13 := Lib.hid ((hb13.block _ (by omega)).trans KA12.out)
              have KB13 := Lib.hid ((hb13.block _ (by omega)).trans KB12.out)
              have KC13 := Lib.hid ((hb13.block _ (by omega)).trans KC12.out)
              obtain ⟨ax12, cx12, rfl⟩ := liesF_form hx12
              have HX12 := Lib.hid (liesF_lies hx12)
              have HXK := Lib.hid (lies_below HX11.out hb13)
              clear hb13 d0 d1 d2 d3 d4 d5 hx12
              by_cases hz1 : z3 = 0
              rotate_left
              · have bz : (z3 == 0) = false := by simpa using hz1
                clear hz1
                have d0 := cell_of_block (o := 0) (v := .int .i64 an) KB13.out rfl
                have d1 := cell_of_block (o := 1) (v := .int .i64 ad) KB13.out rfl
                have d2 := cell_of_block (o := 0) (v := .int .i64 bn) KC13.out rfl
                have d3 := cell_of_block (o := 1) (v := .int .i64 bd) KC13.out rfl
                go_wp2_with fail
                refine (NC.out X13 BX13).mono ?_
                rintro e X14 ⟨rfl, hb14⟩
                have BX14 : Below w.heap.size w X14 := BX13.trans (hb14.mono BX13.size)
                have hs14 : w.heap.size + 3 ≤ X14.heap.size := Nat.le_trans hs13 hb14.size
                have KA14 := Lib.hid ((hb14.block _ (by omega)).trans KA13.out)
                have KB14 := Lib.hid ((hb14.block _ (by omega)).trans KB13.out)
                have KC14 := Lib.hid ((hb14.block _ (by omega)).trans KC13.out)
                clear hb14 d0 d1 d2 d3
                have d0 := cell_of_block (o := 0) (v := .int .i64 an) KB14.out rfl
                have d1 := cell_of_block (o := 1) (v := .int .i64 ad) KB14.out rfl
                have d2 := cell_of_block (o := 0) (v := .int .i64 bn) KC14.out rfl
                have d3 := cell_of_block (o := 1) (v := .int .i64 bd) KC14.out rfl
                go_wp2_with fail
                refine (HC.out X14 BX14).mono ?_
                rintro e X15 ⟨rfl, hb15⟩
                have BX15 : Below w.heap.size w X15 := BX14.trans (hb15.mono BX14.size)
                have hs15 : w.heap.size + 3 ≤ X15.heap.size := Nat.le_trans hs14 hb15.size
                have KA15 := Lib.hid ((hb15.block _ (by omega)).trans KA14.out)
                have KB15 := Lib.hid ((hb15.block _ (by omega)).trans KB14.out)
                have KC15 := Lib.hid ((hb15.block _ (by omega)).trans KC14.out)
                clear hb15 d0 d1 d2 d3
                go_wp2_with fail
                refine (GR.out _).mono ?_
                rintro e X16 ⟨rfl, hb16⟩
                have BX16 : Below w.heap.size w X16 := BX15.trans (hb16.mono BX15.size)
                have hs16 : w.heap.size + 3 ≤ X16.heap.size := Nat.le_trans hs15 hb16.size
                have KA16 := Lib.hid ((hb16.block _ (by omega)).trans KA15.out)
                have KB16 := Lib.hid ((hb16.block _ (by omega)).trans KB15.out)
                have KC16 := Lib.hid ((hb16.block _ (by omega)).trans KC15.out)
                clear hb16
                go_wp2_with fail
                go_ret
                exact ⟨rfl, BX16⟩
              by_cases hz2 : z4 = 0
              rotate_left
              · have bz : (z3 == 0) = true := by simpa using hz1
                have bz2 : (z4 == 0) = false := by simpa using hz2
                clear hz1 hz2
                have d0 := cell_of_block (o := 0) (v := .int .i64 an) KB13.out rfl
                have d1 := cell_of_block (o := 1) (v := .int .i64 ad) KB13.out rfl
                have d2 := cell_of_block (o := 0) (v := .int .i64 bn) KC13.out rfl
                have d3 := cell_of_block (o := 1) (v := .int .i64 bd) KC13.out rfl
                go_wp2_with fail
                refine (NC.out X13 BX13).mono ?_
                rintro e X14 ⟨rfl, hb14⟩
                have BX14 : Below w.heap.size w X14 := BX13.trans (hb14.mono BX13.size)
                have hs14 : w.heap.size + 3 ≤ X14.heap.size := Nat.le_trans hs13 hb14.size
                have KA14 := Lib.hid ((hb14.block _ (by omega)).trans KA13.out)
                have KB14 := Lib.hid ((hb14.block _ (by omega)).trans KB13.out)
                have KC14 := Lib.hid ((hb14.block _ (by omega)).trans KC13.out)
                clear hb14 d0 d1 d2 d3
                have d0 := cell_of_block (o := 0) (v := .int .i64 an) KB14.out rfl
                have d1 := cell_of_block (o := 1) (v := .int .i64 ad) KB14.out rfl
                have d2 := cell_of_block (o := 0) (v := .int .i64 bn) KC14.out rfl
                have d3 := cell_of_block (o := 1) (v := .int .i64 bd) KC14.out rfl
                go_wp2_with fail
                refine (HC.out X14 BX14).mono ?_
                rintro e X15 ⟨rfl, hb15⟩
                have BX15 : Below w.heap.size w X15 := BX14.trans (hb15.mono BX14.size)
                have hs15 : w.heap.size + 3 ≤ X15.heap.size := Nat.le_trans hs14 hb15.size
                have KA15 := Lib.hid ((hb15.block _ (by omega)).trans KA14.out)
                have KB15 := Lib.hid ((hb15.block _ (by omega)).trans KB14.out)
                have KC15 := Lib.hid ((hb15.block _ (by omega)).trans KC14.out)
                clear hb15 d0 d1 d2 d3
                go_wp2_with fail
                refine (GR.out _).mono ?_
                rintro e X16 ⟨rfl, hb16⟩
                have BX16 : Below w.heap.size w X16 := BX15.trans (hb16.mono BX15.size)
                have hs16 : w.heap.size + 3 ≤ X16.heap.size := Nat.le_trans hs15 hb16.size
                have KA16 := Lib.hid ((hb16.block _ (by omega)).trans KA15.out)
                have KB16 := Lib.hid ((hb16.block _ (by omega)).trans KB15.out)
                have KC16 := Lib.hid ((hb16.block _ (by omega)).trans KC15.out)
                clear hb16
                go_wp2_with fail
                go_ret
                exact ⟨rfl, BX16⟩
              have bz : (z3 == 0) = true := by simpa using hz1
              have bz2 : (z4 == 0) = true := by simpa using hz2
              have OC := Lib.hid (O2.out _ _ _ hz1 hz2 HXK.out HX12.out)
              clear hz1 hz2
              go_wp2_with fail
              refine (OC.out).mono ?_
              rintro e X14 ⟨rfl, hb14⟩
              have BX14 : Below w.heap.size w X14 := BX13.trans (hb14.mono BX13.size)
              have hs14 : w.heap.size + 3 ≤ X14.heap.size := Nat.le_trans hs13 hb14.size
              have KA14 := Lib.hid ((hb14.block _ (by omega)).trans KA13.out)
              have KB14 := Lib.hid ((hb14.block _ (by omega)).trans KB13.out)
              have KC14 := Lib.hid ((hb14.block _ (by omega)).trans KC13.out)
              clear bz bz2 OC HXK
              clear hb14
              have d0 := cell_of_block (o := 0) (v := .int .i64 an) KB14.out rfl
              have d1 := cell_of_block (o := 1) (v := .int .i64 ad) KB14.out rfl
              have d2 := cell_of_block (o := 0) (v := .int .i64 bn) KC14.out rfl
              have d3 := cell_of_block (o := 1) (v := .int .i64 bd) KC14.out rfl
              go_wp2_with fail
              refine (NC.out X14 BX14).mono ?_
              rintro e X15 ⟨rfl, hb15⟩
              have BX15 : Below w.heap.size w X15 := BX14.trans (hb15.mono BX14.size)
              have hs15 : w.heap.size + 3 ≤ X15.heap.size := Nat.le_trans hs14 hb15.size
              have KA15 := Lib.hid ((hb15.block _ (by omega)).trans KA14.out)
              have KB15 := Lib.hid ((hb15.block _ (by omega)).trans KB14.out)
              have KC15 := Lib.hid ((hb15.block _ (by omega)).trans KC14.out)
              clear hb15 d0 d1 d2 d3
              have d0 := cell_of_block (o := 0) (v := .int .i64 an) KB15.out rfl
              have d1 := cell_of_block (o := 1) (v := .int .i64 ad) KB15.out rfl
              have d2 := cell_of_block (o := 0) (v := .int .i64 bn) KC15.out rfl
              have d3 := cell_of_block (o := 1) (v := .int .i64 bd) KC15.out rfl
              go_wp2_with fail
              refine (HC.out X15 BX15).mono ?_
              rintro e X16 ⟨rfl, hb16⟩
              have BX16 : Below w.heap.size w X16 := BX15.trans (hb16.mono BX15.size)
              have hs16 : w.heap.size + 3 ≤ X16.heap.size := Nat.le_trans hs15 hb16.size
              have KA16 := Lib.hid ((hb16.block _ (by omega)).trans KA15.out)
              have KB16 := Lib.hid ((hb16.block _ (by omega)).trans KB15.out)
              have KC16 := Lib.hid ((hb16.block _ (by omega)).trans KC15.out)
              clear hb16 d0 d1 d2 d3
              go_wp2_with fail
              refine (GR.out _).mono ?_
              rintro e X17 ⟨rfl, hb17⟩
              have BX17 : Below w.heap.size w X17 := BX16.trans (hb17.mono BX16.size)
              have hs17 : w.heap.size + 3 ≤ X17.heap.size := Nat.le_trans hs16 hb17.size
              have KA17 := Lib.hid ((hb17.block _ (by omega)).trans KA16.out)
              have KB17 := Lib.hid ((hb17.block _ (by omega)).trans KB16.out)
              have KC17 := Lib.hid ((hb17.block _ (by omega)).trans KC16.out)
              clear hb17
              go_wp2_with fail
              go_ret
              exact ⟨rfl, BX17⟩
            have bz : (z1 == 0) = true := by simpa using hz1
            have bz2 : (z2 == 0) = true := by simpa using hz2
            have OC := Lib.hid (O1.out _ _ _ hz1 hz2 HXK.out HX10.out)
            clear hz1 hz2
            go_wp2_with fail
            refine (OC.out).mono ?_
            rintro e X12 ⟨rfl, hb12⟩
            have BX12 : Below w.heap.size w X12 := BX11.trans (hb12.mono BX11.size)
            have hs12 : w.heap.size + 3 ≤ X12.heap.size := Nat.le_trans hs11 hb12.size
            have KA12 := Lib.hid ((hb12.block _ (by omega)).trans KA11.out)
            have KB12 := Lib.hid ((hb12.block _ (by omega)).trans KB11.out)
            have KC12 := Lib.hid ((hb12.block _ (by omega)).trans KC11.out)
            clear bz bz2 OC HXK
            clear hb12
            have d0 := cell_of_block (o := 0) (v := .int .i64 h.k) KA12.out rfl
            have d1 := cell_of_block (o := 1) (v := .string ⟨h.l.toArray⟩) KA12.out rfl
            have d2 := cell_of_block (o := 2) (v := .slice aa h.ats.length ca) KA12.out rfl
            have d3 := cell_of_block (o := 3) (v := .int .i64 h.n) KA12.out rfl
            have d4 := cell_of_block (o := 4) (v := .int .i64 h.d) KA12.out rfl
            have d5 := cell_of_block (o := 5) (v := .string ⟨h.x.toArray⟩) KA12.out rfl
            go_wp2_with fail
            refine (W1.out X12 BX12).mono ?_
            rintro e X13 ⟨x12, rfl, hx12, hb13⟩
            have BX13 : Below w.heap.size w X13 := BX12.trans (hb13.mono BX12.size)
            have hs13 : w.heap.size + 3 ≤ X13.heap.size := Nat.le_trans hs12 hb13.size
            have KA13 := Lib.hid ((hb13.block _ (by omega)).trans KA12.out)
            have KB13 := Lib.hid ((hb13.block _ (by omega)).trans KB12.out)
            have KC13 := Lib.hid ((hb13.block _ (by omega)).trans KC12.out)
            obtain ⟨ax12, cx12, rfl⟩ := liesF_form hx12
            have HX12 := Lib.hid (liesF_lies hx12)
            clear hb13 d0 d1 d2 d3 d4 d5 hx12
            have d0 := cell_of_block (o := 0) (v := .int .i64 h.k) KA13.out rfl
            have d1 := cell_of_block (o := 1) (v := .string ⟨h.l.toArray⟩) KA13.out rfl
            have d2 := cell_of_block (o := 2) (v := .slice aa h.ats.length ca) KA13.out rfl
            have d3 := cell_of_block (o := 3) (v := .int .i64 h.n) KA13.out rfl
            have d4 := cell_of_block (o := 4) (v := .int .i64 h.d) KA13.out rfl
            have d5 := cell_of_block (o := 5) (v := .string ⟨h.x.toArray⟩) KA13.out rfl
            go_wp2_with fail
            refine (W2.out X13 BX13).mono ?_
            rintro e X14 ⟨x13, rfl, hx13, hb14⟩
            have BX14 : Below w.heap.size w X14 := BX13.trans (hb14.mono BX13.size)
            have hs14 : w.heap.size + 3 ≤ X14.heap.size := Nat.le_trans hs13 hb14.size
            have KA14 := Lib.hid ((hb14.block _ (by omega)).trans KA13.out)
            have KB14 := Lib.hid ((hb14.block _ (by omega)).trans KB13.out)
            have KC14 := Lib.hid ((hb14.block _ (by omega)).trans KC13.out)
            obtain ⟨ax13, cx13, rfl⟩ := liesF_form hx13
            have HX13 := Lib.hid (liesF_lies hx13)
            have HXK := Lib.hid (lies_below HX12.out hb14)
            clear hb14 d0 d1 d2 d3 d4 d5 hx13
            by_cases hz1 : z3 = 0
            rotate_left
            · have bz : (z3 == 0) = false := by simpa using hz1
              clear hz1
              have d0 := cell_of_block (o := 0) (v := .int .i64 an) KB14.out rfl
              have d1 := cell_of_block (o := 1) (v := .int .i64 ad) KB14.out rfl
              have d2 := cell_of_block (o := 0) (v := .int .i64 bn) KC14.out rfl
              have d3 := cell_of_block (o := 1) (v := .int .i64 bd) KC14.out rfl
              go_wp2_with fail
              refine (NC.out X14 BX14).mono ?_
              rintro e X15 ⟨rfl, hb15⟩
              have BX15 : Below w.heap.size w X15 := BX14.trans (hb15.mono BX14.size)
              have hs15 : w.heap.size + 3 ≤ X15.heap.size := Nat.le_trans hs14 hb15.size
              have KA15 := Lib.hid ((hb15.block _ (by omega)).trans KA14.out)
              have KB15 := Lib.hid ((hb15.block _ (by omega)).trans KB14.out)
              have KC15 := Lib.hid ((hb15.block _ (by omega)).trans KC14.out)
              clear hb15 d0 d1 d2 d3
              have d0 := cell_of_block (o := 0) (v := .int .i64 an) KB15.out rfl
              have d1 := cell_of_block (o := 1) (v := .int .i64 ad) KB15.out rfl
              have d2 := cell_of_block (o := 0) (v := .int .i64 bn) KC15.out rfl
              have d3 := cell_of_block (o := 1) (v := .int .i64 bd) KC15.out rfl
              go_wp2_with fail
              refine (HC.out X15 BX15).mono ?_
              rintro e X16 ⟨rfl, hb16⟩
              have BX16 : Below w.heap.size w X16 := BX15.trans (hb16.mono BX15.size)
              have hs16 : w.heap.size + 3 ≤ X16.heap.size := Nat.le_trans hs15 hb16.size
              have KA16 := Lib.hid ((hb16.block _ (by omega)).trans KA15.out)
              have KB16 := Lib.hid ((hb16.block _ (by omega)).trans KB15.out)
              have KC16 := Lib.hid ((hb16.block _ (by omega)).trans KC15.out)
              clear hb16 d0 d1 d2 d3
              go_wp2_with fail
              refine (GR.out _).mono ?_
              rintro e X17 ⟨rfl, hb17⟩
              have BX17 : Below w.heap.size w X17 := BX16.trans (hb17.mono BX16.size)
              have hs17 : w.heap.size + 3 ≤ X17.heap.size := Nat.le_trans hs16 hb17.size
              have KA17 := Lib.hid ((hb17.block _ (by omega)).trans KA16.out)
              have KB17 := Lib.hid ((hb17.block _ (by omega)).trans KB16.out)
              have KC17 := Lib.hid ((hb17.block _ (by omega)).trans KC16.out)
              clear hb17
              go_wp2_with fail
              go_ret
              exact ⟨rfl, BX17⟩
            by_cases hz2 : z4 = 0
            rotate_left
            · have bz : (z3 == 0) = true := by simpa using hz1
              have bz2 : (z4 == 0) = false := by simpa using hz2
              clear hz1 hz2
              have d0 := cell_of_block (o := 0) (v := .int .i64 an) KB14.out rfl
              have d1 := cell_of_block (o := 1) (v := .int .i64 ad) KB14.out rfl
              have d2 := cell_of_block (o := 0) (v := .int .i64 bn) KC14.out rfl
              have d3 := cell_of_block (o := 1) (v := .int .i64 bd) KC14.out rfl
              go_wp2_with fail
              refine (NC.out X14 BX14).mono ?_
              rintro e X15 ⟨rfl, hb15⟩
              have BX15 : Below w.heap.size w X15 := BX14.trans (hb15.mono BX14.size)
              have hs15 : w.heap.size + 3 ≤ X15.heap.size := Nat.le_trans hs14 hb15.size
              have KA15 := Lib.hid ((hb15.block _ (by omega)).trans KA14.out)
              have KB15 := Lib.hid ((hb15.block _ (by omega)).trans KB14.out)
              have KC15 := Lib.hid ((hb15.block _ (by omega)).trans KC14.out)
              clear hb15 d0 d1 d2 d3
              have d0 := cell_of_block (o := 0) (v := .int .i64 an) KB15.out rfl
              have d1 := cell_of_block (o := 1) (v := .int .i64 ad) KB15.out rfl
              have d2 := cell_of_block (o := 0) (v := .int .i64 bn) KC15.out rfl
              have d3 := cell_of_block (o := 1) (v := .int .i64 bd) KC15.out rfl
              go_wp2_with fail
              refine (HC.out X15 BX15).mono ?_
              rintro e X16 ⟨rfl, hb16⟩
              have BX16 : Below w.heap.size w X16 := BX15.trans (hb16.mono BX15.size)
              have hs16 : w.heap.size + 3 ≤ X16.heap.size := Nat.le_trans hs15 hb16.size
              have KA16 := Lib.hid ((hb16.block _ (by omega)).trans KA15.out)
              have KB16 := Lib.hid ((hb16.block _ (by omega)).trans KB15.out)
              have KC16 := Lib.hid ((hb16.block _ (by omega)).trans KC15.out)
              clear hb16 d0 d1 d2 d3
              go_wp2_with fail
              refine (GR.out _).mono ?_
              rintro e X17 ⟨rfl, hb17⟩
              have BX17 : Below w.heap.size w X17 := BX16.trans (hb17.mono BX16.size)
              have hs17 : w.heap.size + 3 ≤ X17.heap.size := Nat.le_trans hs16 hb17.size
              have KA17 := Lib.hid ((hb17.block _ (by omega)).trans KA16.out)
              have KB17 := Lib.hid ((hb17.block _ (by omega)).trans KB16.out)
              have KC17 := Lib.hid ((hb17.block _ (by omega)).trans KC16.out)
              clear hb17
              go_wp2_with fail
              go_ret
              exact ⟨rfl, BX17⟩
            have bz : (z3 == 0) = true := by simpa using hz1
            have bz2 : (z4 == 0) = true := by simpa using hz2
            have OC := Lib.hid (O2.out _ _ _ hz1 hz2 HXK.out HX13.out)
            clear hz1 hz2
            go_wp2_with fail
            refine (OC.out).mono ?_
            rintro e X15 ⟨rfl, hb15⟩
            have BX15 : Below w.heap.size w X15 := BX14.trans (hb15.mono BX14.size)
            have hs15 : w.heap.size + 3 ≤ X15.heap.size := Nat.le_trans hs14 hb15.size
            have KA15 := Lib.hid ((hb15.block _ (by omega)).trans KA14.out)
            have KB15 := Lib.hid ((hb15.block _ (by omega)).trans KB14.out)
            have KC15 := Lib.hid ((hb15.block _ (by omega)).trans KC14.out)
            clear bz bz2 OC HXK
            clear hb15
            have d0 := cell_of_block (o := 0) (v := .int .i64 an) KB15.out rfl
            have d1 := cell_of_block (o := 1) (v := .int .i64 ad) KB15.out rfl
            have d2 := cell_of_block (o := 0) (v := .int .i64 bn) KC15.out rfl
            have d3 := cell_of_block (o := 1) (v := .int .i64 bd) KC15.out rfl
            go_wp2_with fail
            refine (NC.out X15 BX15).mono ?_
            rintro e X16 ⟨rfl, hb16⟩
            have BX16 : Below w.heap.size w X16 := BX15.trans (hb16.mono BX15.size)
            have hs16 : w.heap.size + 3 ≤ X16.heap.size := Nat.le_trans hs15 hb16.size
            have KA16 := Lib.hid ((hb16.block _ (by omega)).trans KA15.out)
            have KB16 := Lib.hid ((hb16.block _ (by omega)).trans KB15.out)
            have KC16 := Lib.hid ((hb16.block _ (by omega)).trans KC15.out)
            clear hb16 d0 d1 d2 d3
            have d0 := cell_of_block (o := 0) (v := .int .i64 an) KB16.out rfl
            have d1 := cell_of_block (o := 1) (v := .int .i64 ad) KB16.out rfl
            have d2 := cell_of_block (o := 0) (v := .int .i64 bn) KC16.out rfl
            have d3 := cell_of_block (o := 1) (v := .int .i64 bd) KC16.out rfl
            go_wp2_with fail
            refine (HC.out X16 BX16).mono ?_
            rintro e X17 ⟨rfl, hb17⟩
            have BX17 : Below w.heap.size w X17 := BX16.trans (hb17.mono BX16.size)
            have hs17 : w.heap.size + 3 ≤ X17.heap.size := Nat.le_trans hs16 hb17.size
            have KA17 := Lib.hid ((hb17.block _ (by omega)).trans KA16.out)
            have KB17 := Lib.hid ((hb17.block _ (by omega)).trans KB16.out)
            have KC17 := Lib.hid ((hb17.block _ (by omega)).trans KC16.out)
            clear hb17 d0 d1 d2 d3
            go_wp2_with fail
            refine (GR.out _).mono ?_
            rintro e X18 ⟨rfl, hb18⟩
            have BX18 : Below w.heap.size w X18 := BX17.trans (hb18.mono BX17.size)
            have hs18 : w.heap.size + 3 ≤ X18.heap.size := Nat.le_trans hs17 hb18.size
            have KA18 := Lib.hid ((hb18.block _ (by omega)).trans KA17.out)
            have KB18 := Lib.hid ((hb18.block _ (by omega)).trans KB17.out)
            have KC18 := Lib.hid ((hb18.block _ (by omega)).trans KC17.out)
            clear hb18
            go_wp2_with fail
            go_ret
            exact ⟨rfl, BX18⟩
          have bkn : (k == n) = false := by simpa using hkn
          clear hkn HON
          go_wp2_with fail
          refine (P1.out X9 BX9).mono ?_
          rintro e X10 ⟨x9, rfl, hx9, hb10⟩
          have BX10 : Below w.heap.size w X10 := BX9.trans (hb10.mono BX9.size)
          have hs10 : w.heap.size + 3 ≤ X10.heap.size := Nat.le_trans hs9 hb10.size
          have KA10 := Lib.hid ((hb10.block _ (by omega)).trans KA9.out)
          have KB10 := Lib.hid ((hb10.block _ (by omega)).trans KB9.out)
          have KC10 := Lib.hid ((hb10.block _ (by omega)).trans KC9.out)
          obtain ⟨ax9, cx9, rfl⟩ := liesF_form hx9
          have HX9 := Lib.hid (liesF_lies hx9)
          clear hb10 hx9
          go_wp2_with fail
          refine (P2.out X10 BX10).mono ?_
          rintro e X11 ⟨x10, rfl, hx10, hb11⟩
          have BX11 : Below w.heap.size w X11 := BX10.trans (hb11.mono BX10.size)
          have hs11 : w.heap.size + 3 ≤ X11.heap.size := Nat.le_trans hs10 hb11.size
          have KA11 := Lib.hid ((hb11.block _ (by omega)).trans KA10.out)
          have KB11 := Lib.hid ((hb11.block _ (by omega)).trans KB10.out)
          have KC11 := Lib.hid ((hb11.block _ (by omega)).trans KC10.out)
          obtain ⟨ax10, cx10, rfl⟩ := liesF_form hx10
          have HX10 := Lib.hid (liesF_lies hx10)
          have HXK := Lib.hid (lies_below HX9.out hb11)
          clear hb11 hx10
          by_cases hz1 : z1 = 0
          rotate_left
          · have bz : (z1 == 0) = false := by simpa using hz1
            clear hz1
            have d0 := cell_of_block (o := 0) (v := .int .i64 h.k) KA11.out rfl
            have d1 := cell_of_block (o := 1) (v := .string ⟨h.l.toArray⟩) KA11.out rfl
            have d2 := cell_of_block (o := 2) (v := .slice aa h.ats.length ca) KA11.out rfl
            have d3 := cell_of_block (o := 3) (v := .int .i64 h.n) KA11.out rfl
            have d4 := cell_of_block (o := 4) (v := .int .i64 h.d) KA11.out rfl
            have d5 := cell_of_block (o := 5) (v := .string ⟨h.x.toArray⟩) KA11.out rfl
            go_wp2_with fail
            refine (W1.out X11 BX11).mono ?_
            rintro e X12 ⟨x11, rfl, hx11, hb12⟩
            have BX12 : Below w.heap.size w X12 := BX11.trans (hb12.mono BX11.size)
            have hs12 : w.heap.size + 3 ≤ X12.heap.size := Nat.le_trans hs11 hb12.size
            have KA12 := Lib.hid ((hb12.block _ (by omega)).trans KA11.out)
            have KB12 := Lib.hid ((hb12.block _ (by omega)).trans KB11.out)
            have KC12 := Lib.hid ((hb12.block _ (by omega)).trans KC11.out)
            obtain ⟨ax11, cx11, rfl⟩ := liesF_form hx11
            have HX11 := Lib.hid (liesF_lies hx11)
            clear hb12 d0 d1 d2 d3 d4 d5 hx11
            have d0 := cell_of_block (o := 0) (v := .int .i64 h.k) KA12.out rfl
            have d1 := cell_of_block (o := 1) (v := .string ⟨h.l.toArray⟩) KA12.out rfl
            have d2 := cell_of_block (o := 2) (v := .slice aa h.ats.length ca) KA12.out rfl
            have d3 := cell_of_block (o := 3) (v := .int .i64 h.n) KA12.out rfl
            have d4 := cell_of_block (o := 4) (v := .int .i64 h.d) KA12.out rfl
            have d5 := cell_of_block (o := 5) (v := .string ⟨h.x.toArray⟩) KA12.out rfl
            go_wp2_with fail
            refine (W2.out X12 BX12).mono ?_
            rintro e X13 ⟨x12, rfl, hx12, hb13⟩
            have BX13 : Below w.heap.size w X13 := BX12.trans (hb13.mono BX12.size)
            have hs13 : w.heap.size + 3 ≤ X13.heap.size := Nat.le_trans hs12 hb13.size
            have KA13 := Lib.hid ((hb13.block _ (by omega)).trans KA12.out)
            have KB13 := Lib.hid ((hb13.block _ (by omega)).trans KB12.out)
            have KC13 := Lib.hid ((hb13.block _ (by omega)).trans KC12.out)
            obtain ⟨ax12, cx12, rfl⟩ := liesF_form hx12
            have HX12 := Lib.hid (liesF_lies hx12)
            have HXK := Lib.hid (lies_below HX11.out hb13)
            clear hb13 d0 d1 d2 d3 d4 d5 hx12
            by_cases hz1 : z3 = 0
            rotate_left
            · have bz : (z3 == 0) = false := by simpa using hz1
              clear hz1
              have d0 := cell_of_block (o := 0) (v := .int .i64 an) KB13.out rfl
              have d1 := cell_of_block (o := 1) (v := .int .i64 ad) KB13.out rfl
              have d2 := cell_of_block (o := 0) (v := .int .i64 bn) KC13.out rfl
              have d3 := cell_of_block (o := 1) (v := .int .i64 bd) KC13.out rfl
              go_wp2_with fail
              refine (NC.out X13 BX13).mono ?_
              rintro e X14 ⟨rfl, hb14⟩
              have BX14 : Below w.heap.size w X14 := BX13.trans (hb14.mono BX13.size)
              have hs14 : w.heap.size + 3 ≤ X14.heap.size := Nat.le_trans hs13 hb14.size
              have KA14 := Lib.hid ((hb14.block _ (by omega)).trans KA13.out)
              have KB14 := Lib.hid ((hb14.block _ (by omega)).trans KB13.out)
              have KC14 := Lib.hid ((hb14.block _ (by omega)).trans KC13.out)
              clear hb14 d0 d1 d2 d3
              have d0 := cell_of_block (o := 0) (v := .int .i64 an) KB14.out rfl
              have d1 := cell_of_block (o := 1) (v := .int .i64 ad) KB14.out rfl
              have d2 := cell_of_block (o := 0) (v := .int .i64 bn) KC14.out rfl
              have d3 := cell_of_block (o := 1) (v := .int .i64 bd) KC14.out rfl
              go_wp2_with fail
              refine (HC.out X14 BX14).mono ?_
              rintro e X15 ⟨rfl, hb15⟩
              have BX15 : Below w.heap.size w X15 := BX14.trans (hb15.mono BX14.size)
              have hs15 : w.heap.size + 3 ≤ X15.heap.size := Nat.le_trans hs14 hb15.size
              have KA15 := Lib.hid ((hb15.block _ (by omega)).trans KA14.out)
              have KB15 := Lib.hid ((hb15.block _ (by omega)).trans KB14.out)
              have KC15 := Lib.hid ((hb15.block _ (by omega)).trans KC14.out)
              clear hb15 d0 d1 d2 d3
              go_wp2_with fail
              refine (GR.out _).mono ?_
              rintro e X16 ⟨rfl, hb16⟩
              have BX16 : Below w.heap.size w X16 := BX15.trans (hb16.mono BX15.size)
              have hs16 : w.heap.size + 3 ≤ X16.heap.size := Nat.le_trans hs15 hb16.size
              have KA16 := Lib.hid ((hb16.block _ (by omega)).trans KA15.out)
              have KB16 := Lib.hid ((hb16.block _ (by omega)).trans KB15.out)
              have KC16 := Lib.hid ((hb16.block _ (by omega)).trans KC15.out)
              clear hb16
              go_wp2_with fail
              go_ret
              exact ⟨rfl, BX16⟩
            by_cases hz2 : z4 = 0
            rotate_left
            · have bz : (z3 == 0) = true := by simpa using hz1
              have bz2 : (z4 == 0) = false := by simpa using hz2
              clear hz1 hz2
              have d0 := cell_of_block (o := 0) (v := .int .i64 an) KB13.out rfl
              have d1 := cell_of_block (o := 1) (v := .int .i64 ad) KB13.out rfl
              have d2 := cell_of_block (o := 0) (v := .int .i64 bn) KC13.out rfl
              have d3 := cell_of_block (o := 1) (v := .int .i64 bd) KC13.out rfl
              go_wp2_with fail
              refine (NC.out X13 BX13).mono ?_
              rintro e X14 ⟨rfl, hb14⟩
              have BX14 : Below w.heap.size w X14 := BX13.trans (hb14.mono BX13.size)
              have hs14 : w.heap.size + 3 ≤ X14.heap.size := Nat.le_trans hs13 hb14.size
              have KA14 := Lib.hid ((hb14.block _ (by omega)).trans KA13.out)
              have KB14 := Lib.hid ((hb14.block _ (by omega)).trans KB13.out)
              have KC14 := Lib.hid ((hb14.block _ (by omega)).trans KC13.out)
              clear hb14 d0 d1 d2 d3
              have d0 := cell_of_block (o := 0) (v := .int .i64 an) KB14.out rfl
              have d1 := cell_of_block (o := 1) (v := .int .i64 ad) KB14.out rfl
              have d2 := cell_of_block (o := 0) (v := .int .i64 bn) KC14.out rfl
              have d3 := cell_of_block (o := 1) (v := .int .i64 bd) KC14.out rfl
              go_wp2_with fail
              refine (HC.out X14 BX14).mono ?_
              rintro e X15 ⟨rfl, hb15⟩
              have BX15 : Below w.heap.size w X15 := BX14.trans (hb15.mono BX14.size)
              have hs15 : w.heap.size + 3 ≤ X15.heap.size := Nat.le_trans hs14 hb15.size
              have KA15 := Lib.hid ((hb15.block _ (by omega)).trans KA14.out)
              have KB15 := Lib.hid ((hb15.block _ (by omega)).trans KB14.out)
              have KC15 := Lib.hid ((hb15.block _ (by omega)).trans KC14.out)
              clear hb15 d0 d1 d2 d3
              go_wp2_with fail
              refine (GR.out _).mono ?_
              rintro e X16 ⟨rfl, hb16⟩
              have BX16 : Below w.heap.size w X16 := BX15.trans (hb16.mono BX15.size)
              have hs16 : w.heap.size + 3 ≤ X16.heap.size := Nat.le_trans hs15 hb16.size
              have KA16 := Lib.hid ((hb16.block _ (by omega)).trans KA15.out)
              have KB16 := Lib.hid ((hb16.block _ (by omega)).trans KB15.out)
              have KC16 := Lib.hid ((hb16.block _ (by omega)).trans KC15.out)
              clear hb16
              go_wp2_with fail
              go_ret
              exact ⟨rfl, BX16⟩
            have bz : (z3 == 0) = true := by simpa using hz1
            have bz2 : (z4 == 0) = true := by simpa using hz2
            have OC := Lib.hid (O2.out _ _ _ hz1 hz2 HXK.out HX12.out)
            clear hz1 hz2
            go_wp2_with fail
            refine (OC.out).mono ?_
            rintro e X14 ⟨rfl, hb14⟩
            have BX14 : Below w.heap.size w X14 := BX13.trans (hb14.mono BX13.size)
            have hs14 : w.heap.size + 3 ≤ X14.heap.size := Nat.le_trans hs13 hb14.size
            have KA14 := Lib.hid ((hb14.block _ (by omega)).trans KA13.out)
            have KB14 := Lib.hid ((hb14.block _ (by omega)).trans KB13.out)
            have KC14 := Lib.hid ((hb14.block _ (by omega)).trans KC13.out)
            clear bz bz2 OC HXK
            clear hb14
            have d0 := cell_of_block (o := 0) (v := .int .i64 an) KB14.out rfl
            have d1 := cell_of_block (o := 1) (v := .int .i64 ad) KB14.out rfl
            have d2 := cell_of_block (o := 0) (v := .int .i64 bn) KC14.out rfl
            have d3 := cell_of_block (o := 1) (v := .int .i64 bd) KC14.out rfl
            go_wp2_with fail
            refine (NC.out X14 BX14).mono ?_
            rintro e X15 ⟨rfl, hb15⟩
            have BX15 : Below w.heap.size w X15 := BX14.trans (hb15.mono BX14.size)
            have hs15 : w.heap.size + 3 ≤ X15.heap.size := Nat.le_trans hs14 hb15.size
            have KA15 := Lib.hid ((hb15.block _ (by omega)).trans KA14.out)
            have KB15 := Lib.hid ((hb15.block _ (by omega)).trans KB14.out)
            have KC15 := Lib.hid ((hb15.block _ (by omega)).trans KC14.out)
            clear hb15 d0 d1 d2 d3
            have d0 := cell_of_block (o := 0) (v := .int .i64 an) KB15.out rfl
            have d1 := cell_of_block (o := 1) (v := .int .i64 ad) KB15.out rfl
            have d2 := cell_of_block (o := 0) (v := .int .i64 bn) KC15.out rfl
            have d3 := cell_of_block (o := 1) (v := .int .i64 bd) KC15.out rfl
            go_wp2_with fail
            refine (HC.out X15 BX15).mono ?_
            rintro e X16 ⟨rfl, hb16⟩
            have BX16 : Below w.heap.size w X16 := BX15.trans (hb16.mono BX15.size)
            have hs16 : w.heap.size + 3 ≤ X16.heap.size := Nat.le_trans hs15 hb16.size
            have KA16 := Lib.hid ((hb16.block _ (by omega)).trans KA15.out)
            have KB16 := Lib.hid ((hb16.block _ (by omega)).trans KB15.out)
            have KC16 := Lib.hid ((hb16.block _ (by omega)).trans KC15.out)
            clear hb16 d0 d1 d2 d3
            go_wp2_with fail
            refine (GR.out _).mono ?_
            rintro e X17 ⟨rfl, hb17⟩
            have BX17 : Below w.heap.size w X17 := BX16.trans (hb17.mono BX16.size)
            have hs17 : w.heap.size + 3 ≤ X17.heap.size := Nat.le_trans hs16 hb17.size
            have KA17 := Lib.hid ((hb17.block _ (by omega)).trans KA16.out)
            have KB17 := Lib.hid ((hb17.block _ (by omega)).trans KB16.out)
            have KC17 := Lib.hid ((hb17.block _ (by omega)).trans KC16.out)
            clear hb17
            go_wp2_with fail
            go_ret
            exact ⟨rfl, BX17⟩
          by_cases hz2 : z2 = 0
          rotate_left
          · have bz : (z1 == 0) = true := by simpa using hz1
            have bz2 : (z2 == 0) = false := by simpa using hz2
            clear hz1 hz2
            have d0 := cell_of_block (o := 0) (v := .int .i64 h.k) KA11.out rfl
            have d1 := cell_of_block (o := 1) (v := .string ⟨h.l.toArray⟩) KA11.out rfl
            have d2 := cell_of_block (o := 2) (v := .slice aa h.ats.length ca) KA11.out rfl
            have d3 := cell_of_block (o := 3) (v := .int .i64 h.n) KA11.out rfl
            have d4 := cell_of_block (o := 4) (v := .int .i64 h.d) KA11.out rfl
            have d5 := cell_of_block (o := 5) (v := .string ⟨h.x.toArray⟩) KA11.out rfl
            go_wp2_with fail
            refine (W1.out X11 BX11).mono ?_
            rintro e X12 ⟨x11, rfl, hx11, hb12⟩
            have BX12 : Below w.heap.size w X12 := BX11.trans (hb12.mono BX11.size)
            have hs12 : w.heap.size + 3 ≤ X12.heap.size := Nat.le_trans hs11 hb12.size
            have KA12 := Lib.hid ((hb12.block _ (by omega)).trans KA11.out)
            have KB12 := Lib.hid ((hb12.block _ (by omega)).trans KB11.out)
            have KC12 := Lib.hid ((hb12.block _ (by omega)).trans KC11.out)
            obtain ⟨ax11, cx11, rfl⟩ := liesF_form hx11
            have HX11 := Lib.hid (liesF_lies hx11)
            clear hb12 d0 d1 d2 d3 d4 d5 hx11
            have d0 := cell_of_block (o := 0) (v := .int .i64 h.k) KA12.out rfl
            have d1 := cell_of_block (o := 1) (v := .string ⟨h.l.toArray⟩) KA12.out rfl
            have d2 := cell_of_block (o := 2) (v := .slice aa h.ats.length ca) KA12.out rfl
            have d3 := cell_of_block (o := 3) (v := .int .i64 h.n) KA12.out rfl
            have d4 := cell_of_block (o := 4) (v := .int .i64 h.d) KA12.out rfl
            have d5 := cell_of_block (o := 5) (v := .string ⟨h.x.toArray⟩) KA12.out rfl
            go_wp2_with fail
            refine (W2.out X12 BX12).mono ?_
            rintro e X13 ⟨x12, rfl, hx12, hb13⟩
            have BX13 : Below w.heap.size w X13 := BX12.trans (hb13.mono BX12.size)
            have hs13 : w.heap.size + 3 ≤ X13.heap.size := Nat.le_trans hs12 hb13.size
            have KA13 := Lib.hid ((hb13.block _ (by omega)).trans KA12.out)
            have KB13 := Lib.hid ((hb13.block _ (by omega)).trans KB12.out)
            have KC13 := Lib.hid ((hb13.block _ (by omega)).trans KC12.out)
            obtain ⟨ax12, cx12, rfl⟩ := liesF_form hx12
            have HX12 := Lib.hid (liesF_lies hx12)
            have HXK := Lib.hid (lies_below HX11.out hb13)
            clear hb13 d0 d1 d2 d3 d4 d5 hx12
            by_cases hz1 : z3 = 0
            rotate_left
            · have bz : (z3 == 0) = false := by simpa using hz1
              clear hz1
              have d0 := cell_of_block (o := 0) (v := .int .i64 an) KB13.out rfl
              have d1 := cell_of_block (o := 1) (v := .int .i64 ad) KB13.out rfl
              have d2 := cell_of_block (o := 0) (v := .int .i64 bn) KC13.out rfl
              have d3 := cell_of_block (o := 1) (v := .int .i64 bd) KC13.out rfl
              go_wp2_with fail
              refine (NC.out X13 BX13).mono ?_
              rintro e X14 ⟨rfl, hb14⟩
              have BX14 : Below w.heap.size w X14 := BX13.trans (hb14.mono BX13.size)
              have hs14 : w.heap.size + 3 ≤ X14.heap.size := Nat.le_trans hs13 hb14.size
              have KA14 := Lib.hid ((hb14.block _ (by omega)).trans KA13.out)
              have KB14 := Lib.hid ((hb14.block _ (by omega)).trans KB13.out)
              have KC14 := Lib.hid ((hb14.block _ (by omega)).trans KC13.out)
              clear hb14 d0 d1 d2 d3
              have d0 := cell_of_block (o := 0) (v := .int .i64 an) KB14.out rfl
              have d1 := cell_of_block (o := 1) (v := .int .i64 ad) KB14.out rfl
              have d2 := cell_of_block (o := 0) (v := .int .i64 bn) KC14.out rfl
              have d3 := cell_of_block (o := 1) (v := .int .i64 bd) KC14.out rfl
              go_wp2_with fail
              refine (HC.out X14 BX14).mono ?_
              rintro e X15 ⟨rfl, hb15⟩
              have BX15 : Below w.heap.size w X15 := BX14.trans (hb15.mono BX14.size)
              have hs15 : w.heap.size + 3 ≤ X15.heap.size := Nat.le_trans hs14 hb15.size
              have KA15 := Lib.hid ((hb15.block _ (by omega)).trans KA14.out)
              have KB15 := Lib.hid ((hb15.block _ (by omega)).trans KB14.out)
              have KC15 := Lib.hid ((hb15.block _ (by omega)).trans KC14.out)
              clear hb15 d0 d1 d2 d3
              go_wp2_with fail
              refine (GR.out _).mono ?_
              rintro e X16 ⟨rfl, hb16⟩
              have BX16 : Below w.heap.size w X16 := BX15.trans (hb16.mono BX15.size)
              have hs16 : w.heap.size + 3 ≤ X16.heap.size := Nat.le_trans hs15 hb16.size
              have KA16 := Lib.hid ((hb16.block _ (by omega)).trans KA15.out)
              have KB16 := Lib.hid ((hb16.block _ (by omega)).trans KB15.out)
              have KC16 := Lib.hid ((hb16.block _ (by omega)).trans KC15.out)
              clear hb16
              go_wp2_with fail
              go_ret
              exact ⟨rfl, BX16⟩
            by_cases hz2 : z4 = 0
            rotate_left
            · have bz : (z3 == 0) = true := by simpa using hz1
              have bz2 : (z4 == 0) = false := by simpa using hz2
              clear hz1 hz2
              have d0 := cell_of_block (o := 0) (v := .int .i64 an) KB13.out rfl
              have d1 := cell_of_block (o := 1) (v := .int .i64 ad) KB13.out rfl
              have d2 := cell_of_block (o := 0) (v := .int .i64 bn) KC13.out rfl
              have d3 := cell_of_block (o := 1) (v := .int .i64 bd) KC13.out rfl
              go_wp2_with fail
              refine (NC.out X13 BX13).mono ?_
              rintro e X14 ⟨rfl, hb14⟩
              have BX14 : Below w.heap.size w X14 := BX13.trans (hb14.mono BX13.size)
              have hs14 : w.heap.size + 3 ≤ X14.heap.size := Nat.le_trans hs13 hb14.size
              have KA14 := Lib.hid ((hb14.block _ (by omega)).trans KA13.out)
              have KB14 := Lib.hid ((hb14.block _ (by omega)).trans KB13.out)
              have KC14 := Lib.hid ((hb14.block _ (by omega)).trans KC13.out)
              clear hb14 d0 d1 d2 d3
              have d0 := cell_of_block (o := 0) (v := .int .i64 an) KB14.out rfl
              have d1 := cell_of_block (o := 1) (v := .int .i64 ad) KB14.out rfl
              have d2 := cell_of_block (o := 0) (v := .int .i64 bn) KC14.out rfl
              have d3 := cell_of_block (o := 1) (v := .int .i64 bd) KC14.out rfl
              go_wp2_with fail
              refine (HC.out X14 BX14).mono ?_
              rintro e X15 ⟨rfl, hb15⟩
              have BX15 : Below w.heap.size w X15 := BX14.trans (hb15.mono BX14.size)
              have hs15 : w.heap.size + 3 ≤ X15.heap.size := Nat.le_trans hs14 hb15.size
              have KA15 := Lib.hid ((hb15.block _ (by omega)).trans KA14.out)
              have KB15 := Lib.hid ((hb15.block _ (by omega)).trans KB14.out)
              have KC15 := Lib.hid ((hb15.block _ (by omega)).trans KC14.out)
              clear hb15 d0 d1 d2 d3
              go_wp2_with fail
              refine (GR.out _).mono ?_
              rintro e X16 ⟨rfl, hb16⟩
              have BX16 : Below w.heap.size w X16 := BX15.trans (hb16.mono BX15.size)
              have hs16 : w.heap.size + 3 ≤ X16.heap.size := Nat.le_trans hs15 hb16.size
              have KA16 := Lib.hid ((hb16.block _ (by omega)).trans KA15.out)
              have KB16 := Lib.hid ((hb16.block _ (by omega)).trans KB15.out)
              have KC16 := Lib.hid ((hb16.block _ (by omega)).trans KC15.out)
              clear hb16
              go_wp2_with fail
              go_ret
              exact ⟨rfl, BX16⟩
            have bz : (z3 == 0) = true := by simpa using hz1
            have bz2 : (z4 == 0) = true := by simpa using hz2
            have OC := Lib.hid (O2.out _ _ _ hz1 hz2 HXK.out HX12.out)
            clear hz1 hz2
            go_wp2_with fail
            refine (OC.out).mono ?_
            rintro e X14 ⟨rfl, hb14⟩
            have BX14 : Below w.heap.size w X14 := BX13.trans (hb14.mono BX13.size)
            have hs14 : w.heap.size + 3 ≤ X14.heap.size := Nat.le_trans hs13 hb14.size
            have KA14 := Lib.hid ((hb14.block _ (by omega)).trans KA13.out)
            have KB14 := Lib.hid ((hb14.block _ (by omega)).trans KB13.out)
            have KC14 := Lib.hid ((hb14.block _ (by omega)).trans KC13.out)
            clear bz bz2 OC HXK
            clear hb14
            have d0 := cell_of_block (o := 0) (v := .int .i64 an) KB14.out rfl
            have d1 := cell_of_block (o := 1) (v := .int .i64 ad) KB14.out rfl
            have d2 := cell_of_block (o := 0) (v := .int .i64 bn) KC14.out rfl
            have d3 := cell_of_block (o := 1) (v := .int .i64 bd) KC14.out rfl
            go_wp2_with fail
            refine (NC.out X14 BX14).mono ?_
            rintro e X15 ⟨rfl, hb15⟩
            have BX15 : Below w.heap.size w X15 := BX14.trans (hb15.mono BX14.size)
            have hs15 : w.heap.size + 3 ≤ X15.heap.size := Nat.le_trans hs14 hb15.size
            have KA15 := Lib.hid ((hb15.block _ (by omega)).trans KA14.out)
            have KB15 := Lib.hid ((hb15.block _ (by omega)).trans KB14.out)
            have KC15 := Lib.hid ((hb15.block _ (by omega)).trans KC14.out)
            clear hb15 d0 d1 d2 d3
            have d0 := cell_of_block (o := 0) (v := .int .i64 an) KB15.out rfl
            have d1 := cell_of_block (o := 1) (v := .int .i64 ad) KB15.out rfl
            have d2 := cell_of_block (o := 0) (v := .int .i64 bn) KC15.out rfl
            have d3 := cell_of_block (o := 1) (v := .int .i64 bd) KC15.out rfl
            go_wp2_with fail
            refine (HC.out X15 BX15).mono ?_
            rintro e X16 ⟨rfl, hb16⟩
            have BX16 : Below w.heap.size w X16 := BX15.trans (hb16.mono BX15.size)
            have hs16 : w.heap.size + 3 ≤ X16.heap.size := Nat.le_trans hs15 hb16.size
            have KA16 := Lib.hid ((hb16.block _ (by omega)).trans KA15.out)
            have KB16 := Lib.hid ((hb16.block _ (by omega)).trans KB15.out)
            have KC16 := Lib.hid ((hb16.block _ (by omega)).trans KC15.out)
            clear hb16 d0 d1 d2 d3
            go_wp2_with fail
            refine (GR.out _).mono ?_
            rintro e X17 ⟨rfl, hb17⟩
            have BX17 : Below w.heap.size w X17 := BX16.trans (hb17.mono BX16.size)
            have hs17 : w.heap.size + 3 ≤ X17.heap.size := Nat.le_trans hs16 hb17.size
            have KA17 := Lib.hid ((hb17.block _ (by omega)).trans KA16.out)
            have KB17 := Lib.hid ((hb17.block _ (by omega)).trans KB16.out)
            have KC17 := Lib.hid ((hb17.block _ (by omega)).trans KC16.out)
            clear hb17
            go_wp2_with fail
            go_ret
            exact ⟨rfl, BX17⟩
          have bz : (z1 == 0) = true := by simpa using hz1
          have bz2 : (z2 == 0) = true := by simpa using hz2
          have OC := Lib.hid (O1.out _ _ _ hz1 hz2 HXK.out HX10.out)
          clear hz1 hz2
          go_wp2_with fail
          refine (OC.out).mono ?_
          rintro e X12 ⟨rfl, hb12⟩
          have BX12 : Below w.heap.size w X12 := BX11.trans (hb12.mono BX11.size)
          have hs12 : w.heap.size + 3 ≤ X12.heap.size := Nat.le_trans hs11 hb12.size
          have KA12 := Lib.hid ((hb12.block _ (by omega)).trans KA11.out)
          have KB12 := Lib.hid ((hb12.block _ (by omega)).trans KB11.out)
          have KC12 := Lib.hid ((hb12.block _ (by omega)).trans KC11.out)
          clear bz bz2 OC HXK
          clear hb12
          have d0 := cell_of_block (o := 0) (v := .int .i64 h.k) KA12.out rfl
          have d1 := cell_of_block (o := 1) (v := .string ⟨h.l.toArray⟩) KA12.out rfl
          have d2 := cell_of_block (o := 2) (v := .slice aa h.ats.length ca) KA12.out rfl
          have d3 := cell_of_block (o := 3) (v := .int .i64 h.n) KA12.out rfl
          have d4 := cell_of_block (o := 4) (v := .int .i64 h.d) KA12.out rfl
          have d5 := cell_of_block (o := 5) (v := .string ⟨h.x.toArray⟩) KA12.out rfl
          go_wp2_with fail
          refine (W1.out X12 BX12).mono ?_
          rintro e X13 ⟨x12, rfl, hx12, hb13⟩
          have BX13 : Below w.heap.size w X13 := BX12.trans (hb13.mono BX12.size)
          have hs13 : w.heap.size + 3 ≤ X13.heap.size := Nat.le_trans hs12 hb13.size
          have KA13 := Lib.hid ((hb13.block _ (by omega)).trans KA12.out)
          have KB13 := Lib.hid ((hb13.block _ (by omega)).trans KB12.out)
          have KC13 := Lib.hid ((hb13.block _ (by omega)).trans KC12.out)
          obtain ⟨ax12, cx12, rfl⟩ := liesF_form hx12
          have HX12 := Lib.hid (liesF_lies hx12)
          clear hb13 d0 d1 d2 d3 d4 d5 hx12
          have d0 := cell_of_block (o := 0) (v := .int .i64 h.k) KA13.out rfl
          have d1 := cell_of_block (o := 1) (v := .string ⟨h.l.toArray⟩) KA13.out rfl
          have d2 := cell_of_block (o := 2) (v := .slice aa h.ats.length ca) KA13.out rfl
          have d3 := cell_of_block (o := 3) (v := .int .i64 h.n) KA13.out rfl
          have d4 := cell_of_block (o := 4) (v := .int .i64 h.d) KA13.out rfl
          have d5 := cell_of_block (o := 5) (v := .string ⟨h.x.toArray⟩) KA13.out rfl
          go_wp2_with fail
          refine (W2.out X13 BX13).mono ?_
          rintro e X14 ⟨x13, rfl, hx13, hb14⟩
          have BX14 : Below w.heap.size w X14 := BX13.trans (hb14.mono BX13.size)
          have hs14 : w.heap.size + 3 ≤ X14.heap.size := Nat.le_trans hs13 hb14.size
          have KA14 := Lib.hid ((hb14.block _ (by omega)).trans KA13.out)
          have KB14 := Lib.hid ((hb14.block _ (by omega)).trans KB13.out)
          have KC14 := Lib.hid ((hb14.block _ (by omega)).trans KC13.out)
          obtain ⟨ax13, cx13, rfl⟩ := liesF_form hx13
          have HX13 := Lib.hid (liesF_lies hx13)
          have HXK := Lib.hid (lies_below HX12.out hb14)
          clear hb14 d0 d1 d2 d3 d4 d5 hx13
          by_cases hz1 : z3 = 0
          rotate_left
          · have bz : (z3 == 0) = false := by simpa using hz1
            clear hz1
            have d0 := cell_of_block (o := 0) (v := .int .i64 an) KB14.out rfl
            have d1 := cell_of_block (o := 1) (v := .int .i64 ad) KB14.out rfl
            have d2 := cell_of_block (o := 0) (v := .int .i64 bn) KC14.out rfl
            have d3 := cell_of_block (o := 1) (v := .int .i64 bd) KC14.out rfl
            go_wp2_with fail
            refine (NC.out X14 BX14).mono ?_
            rintro e X15 ⟨rfl, hb15⟩
            have BX15 : Below w.heap.size w X15 := BX14.trans (hb15.mono BX14.size)
            have hs15 : w.heap.size + 3 ≤ X15.heap.size := Nat.le_trans hs14 hb15.size
            have KA15 := Lib.hid ((hb15.block _ (by omega)).trans KA14.out)
            have KB15 := Lib.hid ((hb15.block _ (by omega)).trans KB14.out)
            have KC15 := Lib.hid ((hb15.block _ (by omega)).trans KC14.out)
            clear hb15 d0 d1 d2 d3
            have d0 := cell_of_block (o := 0) (v := .int .i64 an) KB15.out rfl
            have d1 := cell_of_block (o := 1) (v := .int .i64 ad) KB15.out rfl
            have d2 := cell_of_block (o := 0) (v := .int .i64 bn) KC15.out rfl
            have d3 := cell_of_block (o := 1) (v := .int .i64 bd) KC15.out rfl
            go_wp2_with fail
            refine (HC.out X15 BX15).mono ?_
            rintro e X16 ⟨rfl, hb16⟩
            have BX16 : Below w.heap.size w X16 := BX15.trans (hb16.mono BX15.size)
            have hs16 : w.heap.size + 3 ≤ X16.heap.size := Nat.le_trans hs15 hb16.size
            have KA16 := Lib.hid ((hb16.block _ (by omega)).trans KA15.out)
            have KB16 := Lib.hid ((hb16.block _ (by omega)).trans KB15.out)
            have KC16 := Lib.hid ((hb16.block _ (by omega)).trans KC15.out)
            clear hb16 d0 d1 d2 d3
            go_wp2_with fail
            refine (GR.out _).mono ?_
            rintro e X17 ⟨rfl, hb17⟩
            have BX17 : Below w.heap.size w X17 := BX16.trans (hb17.mono BX16.size)
            have hs17 : w.heap.size + 3 ≤ X17.heap.size := Nat.le_trans hs16 hb17.size
            have KA17 := Lib.hid ((hb17.block _ (by omega)).trans KA16.out)
            have KB17 := Lib.hid ((hb17.block _ (by omega)).trans KB16.out)
            have KC17 := Lib.hid ((hb17.block _ (by omega)).trans KC16.out)
            clear hb17
            go_wp2_with fail
            go_ret
            exact ⟨rfl, BX17⟩
          by_cases hz2 : z4 = 0
          rotate_left
          · have bz : (z3 == 0) = true := by simpa using hz1
            have bz2 : (z4 == 0) = false := by simpa using hz2
            clear hz1 hz2
            have d0 := cell_of_block (o := 0) (v := .int .i64 an) KB14.out rfl
            have d1 := cell_of_block (o := 1) (v := .int .i64 ad) KB14.out rfl
            have d2 := cell_of_block (o := 0) (v := .int .i64 bn) KC14.out rfl
            have d3 := cell_of_block (o := 1) (v := .int .i64 bd) KC14.out rfl
            go_wp2_with fail
            refine (NC.out X14 BX14).mono ?_
            rintro e X15 ⟨rfl, hb15⟩
            have BX15 : Below w.heap.size w X15 := BX14.trans (hb15.mono BX14.size)
            have hs15 : w.heap.size + 3 ≤ X15.heap.size := Nat.le_trans hs14 hb15.size
            have KA15 := Lib.hid ((hb15.block _ (by omega)).trans KA14.out)
            have KB15 := Lib.hid ((hb15.block _ (by omega)).trans KB14.out)
            have KC15 := Lib.hid ((hb15.block _ (by omega)).trans KC14.out)
            clear hb15 d0 d1 d2 d3
            have d0 := cell_of_block (o := 0) (v := .int .i64 an) KB15.out rfl
            have d1 := cell_of_block (o := 1) (v := .int .i64 ad) KB15.out rfl
            have d2 := cell_of_block (o := 0) (v := .int .i64 bn) KC15.out rfl
            have d3 := cell_of_block (o := 1) (v := .int .i64 bd) KC15.out rfl
            go_wp2_with fail
            refine (HC.out X15 BX15).mono ?_
            rintro e X16 ⟨rfl, hb16⟩
            have BX16 : Below w.heap.size w X16 := BX15.trans (hb16.mono BX15.size)
            have hs16 : w.heap.size + 3 ≤ X16.heap.size := Nat.le_trans hs15 hb16.size
            have KA16 := Lib.hid ((hb16.block _ (by omega)).trans KA15.out)
            have KB16 := Lib.hid ((hb16.block _ (by omega)).trans KB15.out)
            have KC16 := Lib.hid ((hb16.block _ (by omega)).trans KC15.out)
            clear hb16 d0 d1 d2 d3
            go_wp2_with fail
            refine (GR.out _).mono ?_
            rintro e X17 ⟨rfl, hb17⟩
            have BX17 : Below w.heap.size w X17 := BX16.trans (hb17.mono BX16.size)
            have hs17 : w.heap.size + 3 ≤ X17.heap.size := Nat.le_trans hs16 hb17.size
            have KA17 := Lib.hid ((hb17.block _ (by omega)).trans KA16.out)
            have KB17 := Lib.hid ((hb17.block _ (by omega)).trans KB16.out)
            have KC17 := Lib.hid ((hb17.block _ (by omega)).trans KC16.out)
            clear hb17
            go_wp2_with fail
            go_ret
            exact ⟨rfl, BX17⟩
          have bz : (z3 == 0) = true := by simpa using hz1
          have bz2 : (z4 == 0) = true := by simpa using hz2
          have OC := Lib.hid (O2.out _ _ _ hz1 hz2 HXK.out HX13.out)
          clear hz1 hz2
          go_wp2_with fail
          refine (OC.out).mono ?_
          rintro e X15 ⟨rfl, hb15⟩
          have BX15 : Below w.heap.size w X15 := BX14.trans (hb15.mono BX14.size)
          have hs15 : w.heap.size + 3 ≤ X15.heap.size := Nat.le_trans hs14 hb15.size
          have KA15 := Lib.hid ((hb15.block _ (by omega)).trans KA14.out)
          have KB15 := Lib.hid ((hb15.block _ (by omega)).trans KB14.out)
          have KC15 := Lib.hid ((hb15.block _ (by omega)).trans KC14.out)
          clear bz bz2 OC HXK
          clear hb15
          have d0 := cell_of_block (o := 0) (v := .int .i64 an) KB15.out rfl
          have d1 := cell_of_block (o := 1) (v := .int .i64 ad) KB15.out rfl
          have d2 := cell_of_block (o := 0) (v := .int .i64 bn) KC15.out rfl
          have d3 := cell_of_block (o := 1) (v := .int .i64 bd) KC15.out rfl
          go_wp2_with fail
          refine (NC.out X15 BX15).mono ?_
          rintro e X16 ⟨rfl, hb16⟩
          have BX16 : Below w.heap.size w X16 := BX15.trans (hb16.mono BX15.size)
          have hs16 : w.heap.size + 3 ≤ X16.heap.size := Nat.le_trans hs15 hb16.size
          have KA16 := Lib.hid ((hb16.block _ (by omega)).trans KA15.out)
          have KB16 := Lib.hid ((hb16.block _ (by omega)).trans KB15.out)
          have KC16 := Lib.hid ((hb16.block _ (by omega)).trans KC15.out)
          clear hb16 d0 d1 d2 d3
          have d0 := cell_of_block (o := 0) (v := .int .i64 an) KB16.out rfl
          have d1 := cell_of_block (o := 1) (v := .int .i64 ad) KB16.out rfl
          have d2 := cell_of_block (o := 0) (v := .int .i64 bn) KC16.out rfl
          have d3 := cell_of_block (o := 1) (v := .int .i64 bd) KC16.out rfl
          go_wp2_with fail
          refine (HC.out X16 BX16).mono ?_
          rintro e X17 ⟨rfl, hb17⟩
          have BX17 : Below w.heap.size w X17 := BX16.trans (hb17.mono BX16.size)
          have hs17 : w.heap.size + 3 ≤ X17.heap.size := Nat.le_trans hs16 hb17.size
          have KA17 := Lib.hid ((hb17.block _ (by omega)).trans KA16.out)
          have KB17 := Lib.hid ((hb17.block _ (by omega)).trans KB16.out)
          have KC17 := Lib.hid ((hb17.block _ (by omega)).trans KC16.out)
          clear hb17 d0 d1 d2 d3
          go_wp2_with fail
          refine (GR.out _).mono ?_
          rintro e X18 ⟨rfl, hb18⟩
          have BX18 : Below w.heap.size w X18 := BX17.trans (hb18.mono BX17.size)
          have hs18 : w.heap.size + 3 ≤ X18.heap.size := Nat.le_trans hs17 hb18.size
          have KA18 := Lib.hid ((hb18.block _ (by omega)).trans KA17.out)
          have KB18 := Lib.hid ((hb18.block _ (by omega)).trans KB17.out)
          have KC18 := Lib.hid ((hb18.block _ (by omega)).trans KC17.out)
          clear hb18
          go_wp2_with fail
          go_ret
          exact ⟨rfl, BX18⟩
end Go.Proofs.YtcgedpfolloinaaGreat
