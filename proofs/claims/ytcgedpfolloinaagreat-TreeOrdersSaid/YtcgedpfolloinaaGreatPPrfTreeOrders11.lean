/- What the proof of PrfTreeOrders rests on, part 11 of 11. -/
import Derived.Deep.Slices
import Derived.Deep.SlicePairs
import Derived.ChangeArms
import Derived.SizedLaws
import Derived.Test.YtcgedpfolloinaaGreatPPrfTreeOrders10
namespace Go.Proofs.YtcgedpfolloinaaGreat
open Go.RowKit

theorem heads_drop : ∀ (f : Fo) (k : Nat), headsErr f = 0 → headsErr (f.drop k) = 0
  | .nil, k, _ => by cases k <;> rfl
  | .cons h ks r, 0, e => e
  | .cons h ks r, k + 1, e => heads_drop r k (heads_parts e).2.2.2
theorem heads_at {f : Fo} {k : Nat} {h : Hd} {ks : Fo} (e : headsErr f = 0) (hd : f.drop k = .cons h ks (f.drop (k + 1))) : headErr h = 0 ∧ headsErr ks = 0 := by
  have := heads_drop f k e
  rw [hd] at this
  exact ⟨(heads_parts this).1, (heads_parts this).2.2.1⟩

set_option maxRecDepth 100000 in
set_option maxHeartbeats 8000000 in
theorem qorder_step (f g : Fo) (v u : Value) (w : World) (hl : Lies w v f) (hg : Lies w u g) (ef : headsErr f = 0) (eg : headsErr g = 0)
    (HT : ∀ k h ks js v u w1, k < f.len → f.drop k = .cons h ks (f.drop (k + 1)) → headsErr ks = 0 → headsErr js = 0 → Lies w1 v ks → Lies w1 u js → Calls Tryz.prog 90 #[v, u] w1 fun e w' => e = .returned (.int .i64 (foL ks js)) ∧ Below w1.heap.size w1 w') :
    Calls Tryz.prog 90 #[v, u] w fun e w' => e = .returned (.int .i64 (foL f g)) ∧ Below w.heap.size w w' := by
  have HL := Lib.hid hl
  have HG := Lib.hid hg
  have HTT := Lib.hid HT
  have EF := Lib.hid ef
  have EG := Lib.hid eg
  have hfl := lies_len hl
  have hgl := lies_len hg
  obtain ⟨a, cap, rfl⟩ := lies_form hl
  obtain ⟨a', cap', rfl⟩ := lies_form hg
  clear hl hg HT ef eg
  go_enter Tryz.func90, Tryz.ntmps90
  go_wp2_with fail
  go_loopw [5] (fun i wr => ∃ k : Nat, i = .int .i64 k ∧ k ≤ min f.len g.len ∧ foL f g = foL (f.drop k) (g.drop k) ∧ Below w.heap.size w wr) (fun i _ => min f.len g.len - (intOf i).toNat)
  case atStart => exact ⟨0, rfl, Nat.zero_le _, by cases f <;> cases g <;> rfl, Below.refl _ _⟩
  case round =>
    obtain ⟨k, rfl, hk, he, hbw⟩ := hrel
    have HE := Lib.hid he
    have BW := Lib.hid hbw
    have hsr := hbw.size
    clear he
    by_cases hlt : k < min f.len g.len
    · have hka : k < f.len := by omega
      have hkb : k < g.len := by omega
      obtain ⟨bf, of, cp, hs, -, -, hbf, hrow⟩ := lies_row HL.out (by omega)
      simp only [Value.slice.injEq] at hs
      obtain ⟨rfl, -, rfl⟩ := hs
      obtain ⟨bg, og, cp', hs, -, -, hbg, hrow'⟩ := lies_row HG.out (by omega)
      simp only [Value.slice.injEq] at hs
      obtain ⟨rfl, -, rfl⟩ := hs
      obtain ⟨h, ks, e, ⟨qa0, qa1, ⟨va, qa2, ha⟩, qa3, qa4, qa5⟩, vk, qa6, hlk⟩ := row_get hrow hka
      obtain ⟨i, js, e', ⟨qb0, qb1, ⟨vb, qb2, hb⟩, qb3, qb4, qb5⟩, vl, qb6, hlk'⟩ := row_get hrow' hkb
      obtain ⟨aa, ca, rfl⟩ := attrs_form ha
      obtain ⟨ab, cb, rfl⟩ := attrs_form hb
      obtain ⟨ak, ck, rfl⟩ := lies_form hlk
      obtain ⟨al, cl, rfl⟩ := lies_form hlk'
      have ra0 := (hbw.cell (p := ⟨bf, of + k * 7, none⟩) hbf).trans qa0
      have ra1 := (hbw.cell (p := ⟨bf, of + k * 7 + 1, none⟩) hbf).trans qa1
      have ra2 := (hbw.cell (p := ⟨bf, of + k * 7 + 2, none⟩) hbf).trans qa2
      have ra3 := (hbw.cell (p := ⟨bf, of + k * 7 + 3, none⟩) hbf).trans qa3
      have ra4 := (hbw.cell (p := ⟨bf, of + k * 7 + 4, none⟩) hbf).trans qa4
      have ra5 := (hbw.cell (p := ⟨bf, of + k * 7 + 5, none⟩) hbf).trans qa5
      have ra6 := (hbw.cell (p := ⟨bf, of + k * 7 + 6, none⟩) hbf).trans qa6
      have rb0 := (hbw.cell (p := ⟨bg, og + k * 7, none⟩) hbg).trans qb0
      have rb1 := (hbw.cell (p := ⟨bg, og + k * 7 + 1, none⟩) hbg).trans qb1
      have rb2 := (hbw.cell (p := ⟨bg, og + k * 7 + 2, none⟩) hbg).trans qb2
      have rb3 := (hbw.cell (p := ⟨bg, og + k * 7 + 3, none⟩) hbg).trans qb3
      have rb4 := (hbw.cell (p := ⟨bg, og + k * 7 + 4, none⟩) hbg).trans qb4
      have rb5 := (hbw.cell (p := ⟨bg, og + k * 7 + 5, none⟩) hbg).trans qb5
      have rb6 := (hbw.cell (p := ⟨bg, og + k * 7 + 6, none⟩) hbg).trans qb6
      have k1 : bf < wr.heap.size := by omega
      have k2 : bg < wr.heap.size := by omega
      have HS := Lib.hid (HE.out.trans (foL_drop e e'))
      obtain ⟨eh, ek⟩ := heads_at EF.out e
      obtain ⟨ei, ej⟩ := heads_at EG.out e'
      have HH := Lib.hid (fun w1 (hw : Below w.heap.size w w1) => horder_any h i aa ab ca cb w1 (attrs_below ha hw) (attrs_below hb hw) eh ei)
      have HC := Lib.hid (fun w1 (hw : Below w.heap.size w w1) => HTT.out k h ks js _ _ w1 hka e ek ej (lies_below hlk hw) (lies_below hlk' hw))
      unfold treeL at HS
      clear e e' ha hb hlk hlk' hrow hrow' qa0 qa1 qa2 qa3 qa4 qa5 qa6 qb0 qb1 qb2 qb3 qb4 qb5 qb6 hbw eh ek ei ej
      go_wp2_with fail
      refine wp_region_quiet_tail (fun w' => ∃ x : Lower _, w' = x.val) 10 (by kernel_rfl) (by kernel_rfl) ⟨⟨_, (Below.refl _ _).drew⟩, rfl⟩ ?_
      simp only [List.take_succ_cons, List.take_zero, List.drop_succ_cons, List.drop_zero]
      repeat (go_big_quiet_step (fail))
      refine wpQuiet_nil ?_
      intro w1 hx1
      obtain ⟨x1, hx1⟩ := hx1
      have hb1 := x1.prop
      rw [← hx1] at hb1
      clear hx1 x1
      obtain ⟨hc1, hf1⟩ := bcell hb1
      have hs1 := hb1.size
      try simp at hs1
      try have hz10 : w.heap.size < w1.heap.size := by omega
      try have hz11 : w.heap.size + 1 < w1.heap.size := by omega
      try have hz12 : w.heap.size + 1 + 1 < w1.heap.size := by omega
      try have hz13 : w.heap.size + 1 + 1 + 1 < w1.heap.size := by omega
      try have hz14 : w.heap.size + 1 + 1 + 1 + 1 < w1.heap.size := by omega
      try have hz15 : w.heap.size + 1 + 1 + 1 + 1 + 1 < w1.heap.size := by omega
      have s6 := (hc1 _ _ k1).trans ra6
      have t6 := (hc1 _ _ k2).trans rb6
      clear hc1 hf1 ra0 ra1 ra2 ra3 ra4 ra5 ra6 rb0 rb1 rb2 rb3 rb4 rb5 rb6
      have B1 := Lib.hid (BW.out.trans (hb1.mono hsr))
      have n1 : bf < w1.heap.size := by omega
      have n2 : bg < w1.heap.size := by omega
      clear hb1
      go_wp2_with fail
      refine (HH.out _ B1.out).mono ?_
      rintro e w2 ⟨rfl, hb2⟩
      have B2 := Lib.hid (B1.out.trans (hb2.mono B1.out.size))
      have hs2 := hb2.size
      have s6' := ((bcell hb2).1 _ _ n1).trans s6
      have t6' := ((bcell hb2).1 _ _ n2).trans t6
      have n3 : bf < w2.heap.size := by omega
      have n4 : bg < w2.heap.size := by omega
      clear hb2 s6 t6
      generalize headL h i = c at *
      by_cases hx : c = 0
      rotate_left
      · have HX := Lib.hid (HS.out.trans (show _ = c by simp [hx]))
        have b0 : (c != 0) = true := by simpa using hx
        clear hx
        go_wp2_with fail
        go_ret
        exact ⟨ret_int' HX.out.symm, B2.out⟩
      have HS2 := Lib.hid (HS.out.trans (show _ = if foL ks js ≠ 0 then foL ks js else foL (f.drop (k + 1)) (g.drop (k + 1)) by simp [hx]))
      have b0 : (c != 0) = false := by simpa using hx
      clear hx HS
      go_wp2_with fail
      refine wp_region_quiet_tail (fun w' => ∃ x : Lower _, w' = x.val) 10 (by kernel_rfl) (by kernel_rfl) ⟨⟨_, (Below.refl _ _).drew⟩, rfl⟩ ?_
      simp only [List.take_succ_cons, List.take_zero, List.drop_succ_cons, List.drop_zero]
      repeat (go_big_quiet_step (fail))
      refine wpQuiet_nil ?_
      intro w3 hx3
      obtain ⟨x3, hx3⟩ := hx3
      have hb3 := x3.prop
      rw [← hx3] at hb3
      clear hx3 x3
      obtain ⟨hc3, hf3⟩ := bcell hb3
      have hs3 := hb3.size
      try simp at hs3
      try have hz30 : w.heap.size < w3.heap.size := by omega
      try have hz31 : w.heap.size + 1 < w3.heap.size := by omega
      try have hz32 : w.heap.size + 1 + 1 < w3.heap.size := by omega
      try have hz33 : w.heap.size + 1 + 1 + 1 < w3.heap.size := by omega
      try have hz34 : w.heap.size + 1 + 1 + 1 + 1 < w3.heap.size := by omega
      try have hz35 : w.heap.size + 1 + 1 + 1 + 1 + 1 < w3.heap.size := by omega
      try have hy1_3 : w1.heap.size < w3.heap.size := by omega
      try have hy2_3 : w2.heap.size < w3.heap.size := by omega
      have B3 := Lib.hid (B2.out.trans (hb3.mono B2.out.size))
      clear hc3 hf3 hb3 s6' t6'
      go_wp2_with fail
      refine (HC.out _ B3.out).mono ?_
      rintro e w4 ⟨rfl, hb4⟩
      have B4 := Lib.hid (B3.out.trans (hb4.mono B3.out.size))
      clear hb4
      generalize foL ks js = c2 at *
      by_cases hx : c2 = 0
      · have HX := Lib.hid (HS2.out.trans (if_neg (by simpa using hx)))
        have b1 : (c2 != 0) = false := by simpa using hx
        clear hx
        go_wp2_with fail
        go_roundw
        case rel => exact ⟨k + 1, by go_num, by omega, HX.out, B4.out⟩
        case measure => simp [intOf]; omega
      · have HX := Lib.hid (HS2.out.trans (if_pos hx))
        have b1 : (c2 != 0) = true := by simpa using hx
        clear hx
        go_wp2_with fail
        go_ret
        exact ⟨ret_int' HX.out.symm, B4.out⟩
    · have HX := Lib.hid (HE.out.trans (foL_end (show k = min f.len g.len by omega)))
      clear hbw
      by_cases hja : k < f.len
      · have d1 : decide (k < f.len) = true := by simpa using hja
        have hjb : ¬ k < g.len := by omega
        have d2 : decide (k < g.len) = false := by simpa using hjb
        go_wp2_with fail
        refine (qsign_any _ _).mono ?_
        rintro e w2 ⟨rfl, hw⟩
        obtain rfl := hw
        go_wp2_with fail
        go_ret
        exact ⟨ret_int' (by rw [HX.out, sign_cmp]), BW.out⟩
      · have d1 : decide (k < f.len) = false := by simpa using hja
        go_wp2_with fail
        refine (qsign_any _ _).mono ?_
        rintro e w2 ⟨rfl, hw⟩
        obtain rfl := hw
        go_wp2_with fail
        go_ret
        exact ⟨ret_int' (by rw [HX.out, sign_cmp]), BW.out⟩
theorem qOrder_any : ∀ (N : Nat) (f g : Fo) (v u : Value) (w : World), f.size ≤ N → Lies w v f → Lies w u g → headsErr f = 0 → headsErr g = 0 →
    Calls Tryz.prog 90 #[v, u] w fun e w' => e = .returned (.int .i64 (foL f g)) ∧ Below w.heap.size w w' := by
  intro N
  induction N with
  | zero =>
    intro f g v u w hN hl hg ef eg
    refine qorder_step f g v u w hl hg ef eg fun k h ks js v u w1 hk e => ?_
    have := kid_size e
    omega
  | succ N ih =>
    intro f g v u w hN hl hg ef eg
    refine qorder_step f g v u w hl hg ef eg fun k h ks js v u w1 hk e ek ej h1 h2 => ?_
    have := kid_size e
    exact ih ks js v u w1 (by omega) h1 h2 ek ej

theorem cmpF_parts (f g : Fo) : (foErr f ≠ 0 ∧ cmpF f g = (0, foErr f)) ∨ (foErr f = 0 ∧ foErr g ≠ 0 ∧ cmpF f g = (0, foErr g)) ∨ (foErr f = 0 ∧ foErr g = 0 ∧ cmpF f g = (foL f g, 0)) := by
  unfold cmpF
  rw [firstNZ_two]
  by_cases h1 : foErr f = 0
  · by_cases h2 : foErr g = 0
    · exact .inr (.inr ⟨h1, h2, by simp [h1, h2]⟩)
    · exact .inr (.inl ⟨h1, h2, by simp [h1, h2]⟩)
  · exact .inl ⟨h1, by simp [h1]⟩
theorem cmpH_parts (h i : Hd) : (headErr h ≠ 0 ∧ cmpH h i = (0, headErr h)) ∨ (headErr h = 0 ∧ headErr i ≠ 0 ∧ cmpH h i = (0, headErr i)) ∨ (headErr h = 0 ∧ headErr i = 0 ∧ cmpH h i = (headL h i, 0)) := by
  unfold cmpH
  rw [firstNZ_two]
  by_cases h1 : headErr h = 0
  · by_cases h2 : headErr i = 0
    · exact .inr (.inr ⟨h1, h2, by simp [h1, h2]⟩)
    · exact .inr (.inl ⟨h1, h2, by simp [h1, h2]⟩)
  · exact .inl ⟨h1, by simp [h1]⟩
set_option maxRecDepth 100000 in
set_option maxHeartbeats 4000000 in
theorem qcompare_any (f g : Fo) (v u : Value) (w : World) (hl : Lies w v f) (hg : Lies w u g) (hs : Small f) (hs' : Small g) :
    Calls Tryz.prog 30 #[v, u] w fun e w' => e = .returned (.tuple #[.int .i64 (cmpF f g).1, .int .i64 (cmpF f g).2]) ∧ Below w.heap.size w w' := by
  have CF := Lib.hid (fun w1 (hw : Below w.heap.size w w1) => qcheck_any f v w1 (lies_below hl hw) hs)
  have CG := Lib.hid (fun w1 (hw : Below w.heap.size w w1) => qcheck_any g u w1 (lies_below hg hw) hs')
  have OF := Lib.hid (fun w1 (hw : Below w.heap.size w w1) e1 e2 => qOrder_any f.size f g v u w1 (Nat.le_refl _) (lies_below hl hw) (lies_below hg hw) e1 e2)
  have HP := cmpF_parts f g
  have EF := Lib.hid (fun h => heads_of (f := f) h)
  have EG := Lib.hid (fun h => heads_of (f := g) h)
  generalize cmpF f g = R at *
  obtain ⟨a, cap, rfl⟩ := lies_form hl
  obtain ⟨a', cap', rfl⟩ := lies_form hg
  clear hl hg hs hs'
  rcases HP with ⟨h1, rfl⟩ | ⟨h1, h2, rfl⟩ | ⟨h1, h2, rfl⟩
  · have b1 : (foErr f != 0) = true := by simpa using h1
    clear h1
    go_enter Tryz.func30, Tryz.ntmps30
    go_wp2_with fail
    refine (CF.out w (Below.refl _ _)).mono ?_
    rintro e w1 ⟨rfl, hb1⟩
    go_wp2_with fail
    go_ret2
    exact ⟨rfl, hb1⟩
  · have b2 : (foErr g != 0) = true := by simpa using h2
    rw [h1] at CF
    clear h1 h2
    go_enter Tryz.func30, Tryz.ntmps30
    go_wp2_with fail
    refine (CF.out w (Below.refl _ _)).mono ?_
    rintro e w1 ⟨rfl, hb1⟩
    go_wp2_with fail
    refine (CG.out w1 hb1).mono ?_
    rintro e w2 ⟨rfl, hb2⟩
    go_wp2_with fail
    go_ret2
    exact ⟨rfl, hb1.trans (hb2.mono hb1.size)⟩
  · rw [h1] at CF
    rw [h2] at CG
    have e1 := EF.out h1
    have e2 := EG.out h2
    have OO := Lib.hid (fun w1 hw => OF.out w1 hw e1 e2)
    clear h1 h2 e1 e2
    go_enter Tryz.func30, Tryz.ntmps30
    go_wp2_with fail
    refine (CF.out w (Below.refl _ _)).mono ?_
    rintro e w1 ⟨rfl, hb1⟩
    go_wp2_with fail
    refine (CG.out w1 hb1).mono ?_
    rintro e w2 ⟨rfl, hb2⟩
    have B2 := hb1.trans (hb2.mono hb1.size)
    go_wp2_with fail
    refine (OO.out w2 B2).mono ?_
    rintro e w3 ⟨rfl, hb3⟩
    go_wp2_with fail
    go_ret2
    exact ⟨rfl, B2.trans (hb3.mono B2.size)⟩

set_option maxRecDepth 100000 in
set_option maxHeartbeats 8000000 in
theorem qcmpHeads_any (h i : Hd) (aa ab : Option Addr) (ca cb : Nat) (w : World) (ha : AttrsLie w (.slice aa h.ats.length ca) h.ats) (hb : AttrsLie w (.slice ab i.ats.length cb) i.ats) (hf : HdFit h) (hf' : HdFit i) :
    Calls Tryz.prog 28 #[.agg #[.int .i64 h.k, .string ⟨h.l.toArray⟩, .slice aa h.ats.length ca, .int .i64 h.n, .int .i64 h.d, .string ⟨h.x.toArray⟩], .agg #[.int .i64 i.k, .string ⟨i.l.toArray⟩, .slice ab i.ats.length cb, .int .i64 i.n, .int .i64 i.d, .string ⟨i.x.toArray⟩]] w fun e w' => e = .returned (.tuple #[.int .i64 (cmpH h i).1, .int .i64 (cmpH h i).2]) ∧ Below w.heap.size w w' := by
  have CF := Lib.hid (fun w1 (hw : Below w.heap.size w w1) => qhead_any h _ w1 (attrs_below ha hw) hf)
  have CG := Lib.hid (fun w1 (hw : Below w.heap.size w w1) => qhead_any i _ w1 (attrs_below hb hw) hf')
  have OF := Lib.hid (fun w1 (hw : Below w.heap.size w w1) e1 e2 => horder_any h i aa ab ca cb w1 (attrs_below ha hw) (attrs_below hb hw) e1 e2)
  have HP := cmpH_parts h i
  generalize cmpH h i = R at *
  clear ha hb hf hf'
  rcases HP with ⟨h1, rfl⟩ | ⟨h1, h2, rfl⟩ | ⟨h1, h2, rfl⟩
  · have b1 : (headErr h != 0) = true := by simpa using h1
    clear h1
    go_enter Tryz.func28, Tryz.ntmps28
    go_upto_region 1 with fail
    have k0 : ((w.alloc (.cells #[.int .i64 h.k, .string ⟨h.l.toArray⟩, .slice aa h.ats.length ca, .int .i64 h.n, .int .i64 h.d, .string ⟨h.x.toArray⟩] 27)).alloc (.cells #[.int .i64 i.k, .string ⟨i.l.toArray⟩, .slice ab i.ats.length cb, .int .i64 i.n, .int .i64 i.d, .string ⟨i.x.toArray⟩] 27)).heap[w.heap.size]? = some (.cells #[.int .i64 h.k, .string ⟨h.l.toArray⟩, .slice aa h.ats.length ca, .int .i64 h.n, .int .i64 h.d, .string ⟨h.x.toArray⟩] 27) := (Below.heap_alloc _ _ _ (by simp)).trans (World.alloc_heap_new w (.cells #[.int .i64 h.k, .string ⟨h.l.toArray⟩, .slice aa h.ats.length ca, .int .i64 h.n, .int .i64 h.d, .string ⟨h.x.toArray⟩] 27))
    have k1 : ((w.alloc (.cells #[.int .i64 h.k, .string ⟨h.l.toArray⟩, .slice aa h.ats.length ca, .int .i64 h.n, .int .i64 h.d, .string ⟨h.x.toArray⟩] 27)).alloc (.cells #[.int .i64 i.k, .string ⟨i.l.toArray⟩, .slice ab i.ats.length cb, .int .i64 i.n, .int .i64 i.d, .string ⟨i.x.toArray⟩] 27)).heap[w.heap.size + 1]? = some (.cells #[.int .i64 i.k, .string ⟨i.l.toArray⟩, .slice ab i.ats.length cb, .int .i64 i.n, .int .i64 i.d, .string ⟨i.x.toArray⟩] 27) := by
      have := World.alloc_heap_new (w.alloc (.cells #[.int .i64 h.k, .string ⟨h.l.toArray⟩, .slice aa h.ats.length ca, .int .i64 h.n, .int .i64 h.d, .string ⟨h.x.toArray⟩] 27)) (.cells #[.int .i64 i.k, .string ⟨i.l.toArray⟩, .slice ab i.ats.length cb, .int .i64 i.n, .int .i64 i.d, .string ⟨i.x.toArray⟩] 27)
      rw [show (w.alloc (.cells #[.int .i64 h.k, .string ⟨h.l.toArray⟩, .slice aa h.ats.length ca, .int .i64 h.n, .int .i64 h.d, .string ⟨h.x.toArray⟩] 27)).heap.size = w.heap.size + 1 by simp] at this
      exact this
    have BW : Below w.heap.size w ((w.alloc (.cells #[.int .i64 h.k, .string ⟨h.l.toArray⟩, .slice aa h.ats.length ca, .int .i64 h.n, .int .i64 h.d, .string ⟨h.x.toArray⟩] 27)).alloc (.cells #[.int .i64 i.k, .string ⟨i.l.toArray⟩, .slice ab i.ats.length cb, .int .i64 i.n, .int .i64 i.d, .string ⟨i.x.toArray⟩] 27)) := by ((repeat' (first | exact Below.refl _ _ | assumption | refine Below.setCell ?_ ?_ _ | refine bdrewN ?_ _ | refine Below.drew ?_ | refine Below.alloc ?_ ?_ _ | refine bbehind ?_ (by assumption) ?_)); all_goals first | (simp; done) | (simp; omega) | omega)
    have hs0 : w.heap.size + 2 ≤ ((w.alloc (.cells #[.int .i64 h.k, .string ⟨h.l.toArray⟩, .slice aa h.ats.length ca, .int .i64 h.n, .int .i64 h.d, .string ⟨h.x.toArray⟩] 27)).alloc (.cells #[.int .i64 i.k, .string ⟨i.l.toArray⟩, .slice ab i.ats.length cb, .int .i64 i.n, .int .i64 i.d, .string ⟨i.x.toArray⟩] 27)).heap.size := by simp
    generalize (w.alloc (.cells #[.int .i64 h.k, .string ⟨h.l.toArray⟩, .slice aa h.ats.length ca, .int .i64 h.n, .int .i64 h.d, .string ⟨h.x.toArray⟩] 27)).alloc (.cells #[.int .i64 i.k, .string ⟨i.l.toArray⟩, .slice ab i.ats.length cb, .int .i64 i.n, .int .i64 i.d, .string ⟨i.x.toArray⟩] 27) = W at *
    have d0 : W.cell? ⟨w.heap.size, 0, none⟩ = some (.int .i64 h.k) := cell_of_block k0 rfl
    have d1 : W.cell? ⟨w.heap.size, 1, none⟩ = some (.string ⟨h.l.toArray⟩) := cell_of_block k0 rfl
    have d2 : W.cell? ⟨w.heap.size, 2, none⟩ = some (.slice aa h.ats.length ca) := cell_of_block k0 rfl
    have d3 : W.cell? ⟨w.heap.size, 3, none⟩ = some (.int .i64 h.n) := cell_of_block k0 rfl
    have d4 : W.cell? ⟨w.heap.size, 4, none⟩ = some (.int .i64 h.d) := cell_of_block k0 rfl
    have d5 : W.cell? ⟨w.heap.size, 5, none⟩ = some (.string ⟨h.x.toArray⟩) := cell_of_block k0 rfl
    have f0 : W.cell? ⟨w.heap.size + 1, 0, none⟩ = some (.int .i64 i.k) := cell_of_block k1 rfl
    have f1 : W.cell? ⟨w.heap.size + 1, 1, none⟩ = some (.string ⟨i.l.toArray⟩) := cell_of_block k1 rfl
    have f2 : W.cell? ⟨w.heap.size + 1, 2, none⟩ = some (.slice ab i.ats.length cb) := cell_of_block k1 rfl
    have f3 : W.cell? ⟨w.heap.size + 1, 3, none⟩ = some (.int .i64 i.n) := cell_of_block k1 rfl
    have f4 : W.cell? ⟨w.heap.size + 1, 4, none⟩ = some (.int .i64 i.d) := cell_of_block k1 rfl
    have f5 : W.cell? ⟨w.heap.size + 1, 5, none⟩ = some (.string ⟨i.x.toArray⟩) := cell_of_block k1 rfl

    have K0 := Lib.hid k0
    have K1 := Lib.hid k1
    clear k0 k1
    go_wp2_with fail
    refine (CF.out W BW).mono ?_
    rintro e w1 ⟨rfl, hb1⟩
    go_wp2_with fail
    go_ret2
    exact ⟨rfl, BW.trans (hb1.mono BW.size)⟩
  · have b2 : (headErr i != 0) = true := by simpa using h2
    rw [h1] at CF
    clear h1 h2
    go_enter Tryz.func28, Tryz.ntmps28
    go_upto_region 1 with fail
    have k0 : ((w.alloc (.cells #[.int .i64 h.k, .string ⟨h.l.toArray⟩, .slice aa h.ats.length ca, .int .i64 h.n, .int .i64 h.d, .string ⟨h.x.toArray⟩] 27)).alloc (.cells #[.int .i64 i.k, .string ⟨i.l.toArray⟩, .slice ab i.ats.length cb, .int .i64 i.n, .int .i64 i.d, .string ⟨i.x.toArray⟩] 27)).heap[w.heap.size]? = some (.cells #[.int .i64 h.k, .string ⟨h.l.toArray⟩, .slice aa h.ats.length ca, .int .i64 h.n, .int .i64 h.d, .string ⟨h.x.toArray⟩] 27) := (Below.heap_alloc _ _ _ (by simp)).trans (World.alloc_heap_new w (.cells #[.int .i64 h.k, .string ⟨h.l.toArray⟩, .slice aa h.ats.length ca, .int .i64 h.n, .int .i64 h.d, .string ⟨h.x.toArray⟩] 27))
    have k1 : ((w.alloc (.cells #[.int .i64 h.k, .string ⟨h.l.toArray⟩, .slice aa h.ats.length ca, .int .i64 h.n, .int .i64 h.d, .string ⟨h.x.toArray⟩] 27)).alloc (.cells #[.int .i64 i.k, .string ⟨i.l.toArray⟩, .slice ab i.ats.length cb, .int .i64 i.n, .int .i64 i.d, .string ⟨i.x.toArray⟩] 27)).heap[w.heap.size + 1]? = some (.cells #[.int .i64 i.k, .string ⟨i.l.toArray⟩, .slice ab i.ats.length cb, .int .i64 i.n, .int .i64 i.d, .string ⟨i.x.toArray⟩] 27) := by
      have := World.alloc_heap_new (w.alloc (.cells #[.int .i64 h.k, .string ⟨h.l.toArray⟩, .slice aa h.ats.length ca, .int .i64 h.n, .int .i64 h.d, .string ⟨h.x.toArray⟩] 27)) (.cells #[.int .i64 i.k, .string ⟨i.l.toArray⟩, .slice ab i.ats.length cb, .int .i64 i.n, .int .i64 i.d, .string ⟨i.x.toArray⟩] 27)
      rw [show (w.alloc (.cells #[.int .i64 h.k, .string ⟨h.l.toArray⟩, .slice aa h.ats.length ca, .int .i64 h.n, .int .i64 h.d, .string ⟨h.x.toArray⟩] 27)).heap.size = w.heap.size + 1 by simp] at this
      exact this
    have BW : Below w.heap.size w ((w.alloc (.cells #[.int .i64 h.k, .string ⟨h.l.toArray⟩, .slice aa h.ats.length ca, .int .i64 h.n, .int .i64 h.d, .string ⟨h.x.toArray⟩] 27)).alloc (.cells #[.int .i64 i.k, .string ⟨i.l.toArray⟩, .slice ab i.ats.length cb, .int .i64 i.n, .int .i64 i.d, .string ⟨i.x.toArray⟩] 27)) := by ((repeat' (first | exact Below.refl _ _ | assumption | refine Below.setCell ?_ ?_ _ | refine bdrewN ?_ _ | refine Below.drew ?_ | refine Below.alloc ?_ ?_ _ | refine bbehind ?_ (by assumption) ?_)); all_goals first | (simp; done) | (simp; omega) | omega)
    have hs0 : w.heap.size + 2 ≤ ((w.alloc (.cells #[.int .i64 h.k, .string ⟨h.l.toArray⟩, .slice aa h.ats.length ca, .int .i64 h.n, .int .i64 h.d, .string ⟨h.x.toArray⟩] 27)).alloc (.cells #[.int .i64 i.k, .string ⟨i.l.toArray⟩, .slice ab i.ats.length cb, .int .i64 i.n, .int .i64 i.d, .string ⟨i.x.toArray⟩] 27)).heap.size := by simp
    generalize (w.alloc (.cells #[.int .i64 h.k, .string ⟨h.l.toArray⟩, .slice aa h.ats.length ca, .int .i64 h.n, .int .i64 h.d, .string ⟨h.x.toArray⟩] 27)).alloc (.cells #[.int .i64 i.k, .string ⟨i.l.toArray⟩, .slice ab i.ats.length cb, .int .i64 i.n, .int .i64 i.d, .string ⟨i.x.toArray⟩] 27) = W at *
    have d0 : W.cell? ⟨w.heap.size, 0, none⟩ = some (.int .i64 h.k) := cell_of_block k0 rfl
    have d1 : W.cell? ⟨w.heap.size, 1, none⟩ = some (.string ⟨h.l.toArray⟩) := cell_of_block k0 rfl
    have d2 : W.cell? ⟨w.heap.size, 2, none⟩ = some (.slice aa h.ats.length ca) := cell_of_block k0 rfl
    have d3 : W.cell? ⟨w.heap.size, 3, none⟩ = some (.int .i64 h.n) := cell_of_block k0 rfl
    have d4 : W.cell? ⟨w.heap.size, 4, none⟩ = some (.int .i64 h.d) := cell_of_block k0 rfl
    have d5 : W.cell? ⟨w.heap.size, 5, none⟩ = some (.string ⟨h.x.toArray⟩) := cell_of_block k0 rfl
    have f0 : W.cell? ⟨w.heap.size + 1, 0, none⟩ = some (.int .i64 i.k) := cell_of_block k1 rfl
    have f1 : W.cell? ⟨w.heap.size + 1, 1, none⟩ = some (.string ⟨i.l.toArray⟩) := cell_of_block k1 rfl
    have f2 : W.cell? ⟨w.heap.size + 1, 2, none⟩ = some (.slice ab i.ats.length cb) := cell_of_block k1 rfl
    have f3 : W.cell? ⟨w.heap.size + 1, 3, none⟩ = some (.int .i64 i.n) := cell_of_block k1 rfl
    have f4 : W.cell? ⟨w.heap.size + 1, 4, none⟩ = some (.int .i64 i.d) := cell_of_block k1 rfl
    have f5 : W.cell? ⟨w.heap.size + 1, 5, none⟩ = some (.string ⟨i.x.toArray⟩) := cell_of_block k1 rfl

    have K0 := Lib.hid k0
    have K1 := Lib.hid k1
    clear k0 k1
    go_wp2_with fail
    refine (CF.out W BW).mono ?_
    rintro e w1 ⟨rfl, hb1⟩
    have B1 := BW.trans (hb1.mono BW.size)
    have K2 := Lib.hid ((hb1.block _ (by have := hs0; omega)).trans K0.out)
    have K3 := Lib.hid ((hb1.block _ (by have := hs0; omega)).trans K1.out)
    have g0 : w1.cell? ⟨w.heap.size, 0, none⟩ = some (.int .i64 h.k) := cell_of_block K2.out rfl
    have g1 : w1.cell? ⟨w.heap.size, 1, none⟩ = some (.string ⟨h.l.toArray⟩) := cell_of_block K2.out rfl
    have g2 : w1.cell? ⟨w.heap.size, 2, none⟩ = some (.slice aa h.ats.length ca) := cell_of_block K2.out rfl
    have g3 : w1.cell? ⟨w.heap.size, 3, none⟩ = some (.int .i64 h.n) := cell_of_block K2.out rfl
    have g4 : w1.cell? ⟨w.heap.size, 4, none⟩ = some (.int .i64 h.d) := cell_of_block K2.out rfl
    have g5 : w1.cell? ⟨w.heap.size, 5, none⟩ = some (.string ⟨h.x.toArray⟩) := cell_of_block K2.out rfl
    have m0 : w1.cell? ⟨w.heap.size + 1, 0, none⟩ = some (.int .i64 i.k) := cell_of_block K3.out rfl
    have m1 : w1.cell? ⟨w.heap.size + 1, 1, none⟩ = some (.string ⟨i.l.toArray⟩) := cell_of_block K3.out rfl
    have m2 : w1.cell? ⟨w.heap.size + 1, 2, none⟩ = some (.slice ab i.ats.length cb) := cell_of_block K3.out rfl
    have m3 : w1.cell? ⟨w.heap.size + 1, 3, none⟩ = some (.int .i64 i.n) := cell_of_block K3.out rfl
    have m4 : w1.cell? ⟨w.heap.size + 1, 4, none⟩ = some (.int .i64 i.d) := cell_of_block K3.out rfl
    have m5 : w1.cell? ⟨w.heap.size + 1, 5, none⟩ = some (.string ⟨i.x.toArray⟩) := cell_of_block K3.out rfl
    go_wp2_with fail
    refine (CG.out w1 B1).mono ?_
    rintro e w2 ⟨rfl, hb2⟩
    go_wp2_with fail
    go_ret2
    exact ⟨rfl, B1.trans (hb2.mono B1.size)⟩
  · rw [h1] at CF
    rw [h2] at CG
    have OO := Lib.hid (fun w1 hw => OF.out w1 hw h1 h2)
    clear h1 h2
    go_enter Tryz.func28, Tryz.ntmps28
    go_upto_region 1 with fail
    have k0 : ((w.alloc (.cells #[.int .i64 h.k, .string ⟨h.l.toArray⟩, .slice aa h.ats.length ca, .int .i64 h.n, .int .i64 h.d, .string ⟨h.x.toArray⟩] 27)).alloc (.cells #[.int .i64 i.k, .string ⟨i.l.toArray⟩, .slice ab i.ats.length cb, .int .i64 i.n, .int .i64 i.d, .string ⟨i.x.toArray⟩] 27)).heap[w.heap.size]? = some (.cells #[.int .i64 h.k, .string ⟨h.l.toArray⟩, .slice aa h.ats.length ca, .int .i64 h.n, .int .i64 h.d, .string ⟨h.x.toArray⟩] 27) := (Below.heap_alloc _ _ _ (by simp)).trans (World.alloc_heap_new w (.cells #[.int .i64 h.k, .string ⟨h.l.toArray⟩, .slice aa h.ats.length ca, .int .i64 h.n, .int .i64 h.d, .string ⟨h.x.toArray⟩] 27))
    have k1 : ((w.alloc (.cells #[.int .i64 h.k, .string ⟨h.l.toArray⟩, .slice aa h.ats.length ca, .int .i64 h.n, .int .i64 h.d, .string ⟨h.x.toArray⟩] 27)).alloc (.cells #[.int .i64 i.k, .string ⟨i.l.toArray⟩, .slice ab i.ats.length cb, .int .i64 i.n, .int .i64 i.d, .string ⟨i.x.toArray⟩] 27)).heap[w.heap.size + 1]? = some (.cells #[.int .i64 i.k, .string ⟨i.l.toArray⟩, .slice ab i.ats.length cb, .int .i64 i.n, .int .i64 i.d, .string ⟨i.x.toArray⟩] 27) := by
      have := World.alloc_heap_new (w.alloc (.cells #[.int .i64 h.k, .string ⟨h.l.toArray⟩, .slice aa h.ats.length ca, .int .i64 h.n, .int .i64 h.d, .string ⟨h.x.toArray⟩] 27)) (.cells #[.int .i64 i.k, .string ⟨i.l.toArray⟩, .slice ab i.ats.length cb, .int .i64 i.n, .int .i64 i.d, .string ⟨i.x.toArray⟩] 27)
      rw [show (w.alloc (.cells #[.int .i64 h.k, .string ⟨h.l.toArray⟩, .slice aa h.ats.length ca, .int .i64 h.n, .int .i64 h.d, .string ⟨h.x.toArray⟩] 27)).heap.size = w.heap.size + 1 by simp] at this
      exact this
    have BW : Below w.heap.size w ((w.alloc (.cells #[.int .i64 h.k, .string ⟨h.l.toArray⟩, .slice aa h.ats.length ca, .int .i64 h.n, .int .i64 h.d, .string ⟨h.x.toArray⟩] 27)).alloc (.cells #[.int .i64 i.k, .string ⟨i.l.toArray⟩, .slice ab i.ats.length cb, .int .i64 i.n, .int .i64 i.d, .string ⟨i.x.toArray⟩] 27)) := by ((repeat' (first | exact Below.refl _ _ | assumption | refine Below.setCell ?_ ?_ _ | refine bdrewN ?_ _ | refine Below.drew ?_ | refine Below.alloc ?_ ?_ _ | refine bbehind ?_ (by assumption) ?_)); all_goals first | (simp; done) | (simp; omega) | omega)
    have hs0 : w.heap.size + 2 ≤ ((w.alloc (.cells #[.int .i64 h.k, .string ⟨h.l.toArray⟩, .slice aa h.ats.length ca, .int .i64 h.n, .int .i64 h.d, .string ⟨h.x.toArray⟩] 27)).alloc (.cells #[.int .i64 i.k, .string ⟨i.l.toArray⟩, .slice ab i.ats.length cb, .int .i64 i.n, .int .i64 i.d, .string ⟨i.x.toArray⟩] 27)).heap.size := by simp
    generalize (w.alloc (.cells #[.int .i64 h.k, .string ⟨h.l.toArray⟩, .slice aa h.ats.length ca, .int .i64 h.n, .int .i64 h.d, .string ⟨h.x.toArray⟩] 27)).alloc (.cells #[.int .i64 i.k, .string ⟨i.l.toArray⟩, .slice ab i.ats.length cb, .int .i64 i.n, .int .i64 i.d, .string ⟨i.x.toArray⟩] 27) = W at *
    have d0 : W.cell? ⟨w.heap.size, 0, none⟩ = some (.int .i64 h.k) := cell_of_block k0 rfl
    have d1 : W.cell? ⟨w.heap.size, 1, none⟩ = some (.string ⟨h.l.toArray⟩) := cell_of_block k0 rfl
    have d2 : W.cell? ⟨w.heap.size, 2, none⟩ = some (.slice aa h.ats.length ca) := cell_of_block k0 rfl
    have d3 : W.cell? ⟨w.heap.size, 3, none⟩ = some (.int .i64 h.n) := cell_of_block k0 rfl
    have d4 : W.cell? ⟨w.heap.size, 4, none⟩ = some (.int .i64 h.d) := cell_of_block k0 rfl
    have d5 : W.cell? ⟨w.heap.size, 5, none⟩ = some (.string ⟨h.x.toArray⟩) := cell_of_block k0 rfl
    have f0 : W.cell? ⟨w.heap.size + 1, 0, none⟩ = some (.int .i64 i.k) := cell_of_block k1 rfl
    have f1 : W.cell? ⟨w.heap.size + 1, 1, none⟩ = some (.string ⟨i.l.toArray⟩) := cell_of_block k1 rfl
    have f2 : W.cell? ⟨w.heap.size + 1, 2, none⟩ = some (.slice ab i.ats.length cb) := cell_of_block k1 rfl
    have f3 : W.cell? ⟨w.heap.size + 1, 3, none⟩ = some (.int .i64 i.n) := cell_of_block k1 rfl
    have f4 : W.cell? ⟨w.heap.size + 1, 4, none⟩ = some (.int .i64 i.d) := cell_of_block k1 rfl
    have f5 : W.cell? ⟨w.heap.size + 1, 5, none⟩ = some (.string ⟨i.x.toArray⟩) := cell_of_block k1 rfl

    have K0 := Lib.hid k0
    have K1 := Lib.hid k1
    clear k0 k1
    go_wp2_with fail
    refine (CF.out W BW).mono ?_
    rintro e w1 ⟨rfl, hb1⟩
    have B1 := BW.trans (hb1.mono BW.size)
    have hs1 := hb1.size
    have K2 := Lib.hid ((hb1.block _ (by have := hs0; omega)).trans K0.out)
    have K3 := Lib.hid ((hb1.block _ (by have := hs0; omega)).trans K1.out)
    have g0 : w1.cell? ⟨w.heap.size, 0, none⟩ = some (.int .i64 h.k) := cell_of_block K2.out rfl
    have g1 : w1.cell? ⟨w.heap.size, 1, none⟩ = some (.string ⟨h.l.toArray⟩) := cell_of_block K2.out rfl
    have g2 : w1.cell? ⟨w.heap.size, 2, none⟩ = some (.slice aa h.ats.length ca) := cell_of_block K2.out rfl
    have g3 : w1.cell? ⟨w.heap.size, 3, none⟩ = some (.int .i64 h.n) := cell_of_block K2.out rfl
    have g4 : w1.cell? ⟨w.heap.size, 4, none⟩ = some (.int .i64 h.d) := cell_of_block K2.out rfl
    have g5 : w1.cell? ⟨w.heap.size, 5, none⟩ = some (.string ⟨h.x.toArray⟩) := cell_of_block K2.out rfl
    have m0 : w1.cell? ⟨w.heap.size + 1, 0, none⟩ = some (.int .i64 i.k) := cell_of_block K3.out rfl
    have m1 : w1.cell? ⟨w.heap.size + 1, 1, none⟩ = some (.string ⟨i.l.toArray⟩) := cell_of_block K3.out rfl
    have m2 : w1.cell? ⟨w.heap.size + 1, 2, none⟩ = some (.slice ab i.ats.length cb) := cell_of_block K3.out rfl
    have m3 : w1.cell? ⟨w.heap.size + 1, 3, none⟩ = some (.int .i64 i.n) := cell_of_block K3.out rfl
    have m4 : w1.cell? ⟨w.heap.size + 1, 4, none⟩ = some (.int .i64 i.d) := cell_of_block K3.out rfl
    have m5 : w1.cell? ⟨w.heap.size + 1, 5, none⟩ = some (.string ⟨i.x.toArray⟩) := cell_of_block K3.out rfl
    go_wp2_with fail
    refine (CG.out w1 B1).mono ?_
    rintro e w2 ⟨rfl, hb2⟩
    have B2 := B1.trans (hb2.mono B1.size)
    have K4 := Lib.hid ((hb2.block _ (by have := hs0; omega)).trans K2.out)
    have K5 := Lib.hid ((hb2.block _ (by have := hs0; omega)).trans K3.out)
    have p0 : w2.cell? ⟨w.heap.size, 0, none⟩ = some (.int .i64 h.k) := cell_of_block K4.out rfl
    have p1 : w2.cell? ⟨w.heap.size, 1, none⟩ = some (.string ⟨h.l.toArray⟩) := cell_of_block K4.out rfl
    have p2 : w2.cell? ⟨w.heap.size, 2, none⟩ = some (.slice aa h.ats.length ca) := cell_of_block K4.out rfl
    have p3 : w2.cell? ⟨w.heap.size, 3, none⟩ = some (.int .i64 h.n) := cell_of_block K4.out rfl
    have p4 : w2.cell? ⟨w.heap.size, 4, none⟩ = some (.int .i64 h.d) := cell_of_block K4.out rfl
    have p5 : w2.cell? ⟨w.heap.size, 5, none⟩ = some (.string ⟨h.x.toArray⟩) := cell_of_block K4.out rfl
    have q0 : w2.cell? ⟨w.heap.size + 1, 0, none⟩ = some (.int .i64 i.k) := cell_of_block K5.out rfl
    have q1 : w2.cell? ⟨w.heap.size + 1, 1, none⟩ = some (.string ⟨i.l.toArray⟩) := cell_of_block K5.out rfl
    have q2 : w2.cell? ⟨w.heap.size + 1, 2, none⟩ = some (.slice ab i.ats.length cb) := cell_of_block K5.out rfl
    have q3 : w2.cell? ⟨w.heap.size + 1, 3, none⟩ = some (.int .i64 i.n) := cell_of_block K5.out rfl
    have q4 : w2.cell? ⟨w.heap.size + 1, 4, none⟩ = some (.int .i64 i.d) := cell_of_block K5.out rfl
    have q5 : w2.cell? ⟨w.heap.size + 1, 5, none⟩ = some (.string ⟨i.x.toArray⟩) := cell_of_block K5.out rfl
    clear hb1 hb2
    go_wp2_with fail
    refine (OO.out w2 B2).mono ?_
    rintro e w3 ⟨rfl, hb3⟩
    go_wp2_with fail
    go_ret2
    exact ⟨rfl, B2.trans (hb3.mono B2.size)⟩
end Go.Proofs.YtcgedpfolloinaaGreat

namespace Go.Proofs.YtcgedpfolloinaaGreat
open Go.RowKit

set_option maxRecDepth 100000 in
set_option maxHeartbeats 16000000 in
theorem orders_any (h : Hd) (va : Value) (i : Hd) (vb : Value) (f : Fo) (v : Value) (g : Fo) (u : Value) (w : World) (ha : AttrsLie w va h.ats) (hb : AttrsLie w vb i.ats) (hl : Lies w v f) (hg : Lies w u g) :
    Calls Tryz.prog 4 #[hdA h va, hdA i vb, v, u] w fun e w' => e = .returned (.bool true) ∧ Below w.heap.size w w' := by
  unfold hdA
  have GR := Lib.hid (fun w => grown_any w)
  have HG := Lib.hid (fun w1 (hw : Below w.heap.size w w1) => greatHead_any h va w1 (attrs_below ha hw))
  have IG := Lib.hid (fun w1 (hw : Below w.heap.size w w1) => greatHead_any i vb w1 (attrs_below hb hw))
  have FG := Lib.hid (fun w1 (hw : Below w.heap.size w w1) => great_any f.size f v w1 (Nat.le_refl _) (lies_below hl hw))
  have GG := Lib.hid (fun w1 (hw : Below w.heap.size w w1) => great_any g.size g u w1 (Nat.le_refl _) (lies_below hg hw))
  obtain ⟨aa, ca, rfl⟩ := attrs_form ha
  obtain ⟨ab, cb, rfl⟩ := attrs_form hb
  obtain ⟨a, cap, rfl⟩ := lies_form hl
  obtain ⟨a', cap', rfl⟩ := lies_form hg
  cases h1 : greatHead h with
  | true =>
    rw [h1] at HG
    clear ha hb hl hg h1
    go_enter Tryz.func4, Tryz.ntmps4
    go_upto_region 1 with fail

    have k0 : ((w.alloc (.cells #[.int .i64 h.k, .string ⟨h.l.toArray⟩, .slice aa h.ats.length ca, .int .i64 h.n, .int .i64 h.d, .string ⟨h.x.toArray⟩] 27)).alloc (.cells #[.int .i64 i.k, .string ⟨i.l.toArray⟩, .slice ab i.ats.length cb, .int .i64 i.n, .int .i64 i.d, .string ⟨i.x.toArray⟩] 27)).heap[w.heap.size]? = some (.cells #[.int .i64 h.k, .string ⟨h.l.toArray⟩, .slice aa h.ats.length ca, .int .i64 h.n, .int .i64 h.d, .string ⟨h.x.toArray⟩] 27) := (Below.heap_alloc _ _ _ (by simp)).trans (World.alloc_heap_new w (.cells #[.int .i64 h.k, .string ⟨h.l.toArray⟩, .slice aa h.ats.length ca, .int .i64 h.n, .int .i64 h.d, .string ⟨h.x.toArray⟩] 27))
    have k1 : ((w.alloc (.cells #[.int .i64 h.k, .string ⟨h.l.toArray⟩, .slice aa h.ats.length ca, .int .i64 h.n, .int .i64 h.d, .string ⟨h.x.toArray⟩] 27)).alloc (.cells #[.int .i64 i.k, .string ⟨i.l.toArray⟩, .slice ab i.ats.length cb, .int .i64 i.n, .int .i64 i.d, .string ⟨i.x.toArray⟩] 27)).heap[w.heap.size + 1]? = some (.cells #[.int .i64 i.k, .string ⟨i.l.toArray⟩, .slice ab i.ats.length cb, .int .i64 i.n, .int .i64 i.d, .string ⟨i.x.toArray⟩] 27) := by
      have := World.alloc_heap_new (w.alloc (.cells #[.int .i64 h.k, .string ⟨h.l.toArray⟩, .slice aa h.ats.length ca, .int .i64 h.n, .int .i64 h.d, .string ⟨h.x.toArray⟩] 27)) (.cells #[.int .i64 i.k, .string ⟨i.l.toArray⟩, .slice ab i.ats.length cb, .int .i64 i.n, .int .i64 i.d, .string ⟨i.x.toArray⟩] 27)
      rw [show (w.alloc (.cells #[.int .i64 h.k, .string ⟨h.l.toArray⟩, .slice aa h.ats.length ca, .int .i64 h.n, .int .i64 h.d, .string ⟨h.x.toArray⟩] 27)).heap.size = w.heap.size + 1 by simp] at this
      exact this
    have BX0 : Below w.heap.size w ((w.alloc (.cells #[.int .i64 h.k, .string ⟨h.l.toArray⟩, .slice aa h.ats.length ca, .int .i64 h.n, .int .i64 h.d, .string ⟨h.x.toArray⟩] 27)).alloc (.cells #[.int .i64 i.k, .string ⟨i.l.toArray⟩, .slice ab i.ats.length cb, .int .i64 i.n, .int .i64 i.d, .string ⟨i.x.toArray⟩] 27)) := by ((repeat' (first | exact Below.refl _ _ | assumption | refine Below.setCell ?_ ?_ _ | refine bdrewN ?_ _ | refine Below.drew ?_ | refine Below.alloc ?_ ?_ _ | refine bbehind ?_ (by assumption) ?_)); all_goals first | (simp; done) | (simp; omega) | omega)
    have hs0 : w.heap.size + 2 ≤ ((w.alloc (.cells #[.int .i64 h.k, .string ⟨h.l.toArray⟩, .slice aa h.ats.length ca, .int .i64 h.n, .int .i64 h.d, .string ⟨h.x.toArray⟩] 27)).alloc (.cells #[.int .i64 i.k, .string ⟨i.l.toArray⟩, .slice ab i.ats.length cb, .int .i64 i.n, .int .i64 i.d, .string ⟨i.x.toArray⟩] 27)).heap.size := by simp
    generalize (w.alloc (.cells #[.int .i64 h.k, .string ⟨h.l.toArray⟩, .slice aa h.ats.length ca, .int .i64 h.n, .int .i64 h.d, .string ⟨h.x.toArray⟩] 27)).alloc (.cells #[.int .i64 i.k, .string ⟨i.l.toArray⟩, .slice ab i.ats.length cb, .int .i64 i.n, .int .i64 i.d, .string ⟨i.x.toArray⟩] 27) = X0 at *
    have KA0 := Lib.hid k0
    have KB0 := Lib.hid k1
    clear k0 k1
    have d00 : X0.cell? ⟨w.heap.size, 0, none⟩ = some (.int .i64 h.k) := cell_of_block KA0.out rfl
    have d01 : X0.cell? ⟨w.heap.size, 1, none⟩ = some (.string ⟨h.l.toArray⟩) := cell_of_block KA0.out rfl
    have d02 : X0.cell? ⟨w.heap.size, 2, none⟩ = some (.slice aa h.ats.length ca) := cell_of_block KA0.out rfl
    have d03 : X0.cell? ⟨w.heap.size, 3, none⟩ = some (.int .i64 h.n) := cell_of_block KA0.out rfl
    have d04 : X0.cell? ⟨w.heap.size, 4, none⟩ = some (.int .i64 h.d) := cell_of_block KA0.out rfl
    have d05 : X0.cell? ⟨w.heap.size, 5, none⟩ = some (.string ⟨h.x.toArray⟩) := cell_of_block KA0.out rfl
    have f00 : X0.cell? ⟨w.heap.size + 1, 0, none⟩ = some (.int .i64 i.k) := cell_of_block KB0.out rfl
    have f01 : X0.cell? ⟨w.heap.size + 1, 1, none⟩ = some (.string ⟨i.l.toArray⟩) := cell_of_block KB0.out rfl
    have f02 : X0.cell? ⟨w.heap.size + 1, 2, none⟩ = some (.slice ab i.ats.length cb) := cell_of_block KB0.out rfl
    have f03 : X0.cell? ⟨w.heap.size + 1, 3, none⟩ = some (.int .i64 i.n) := cell_of_block KB0.out rfl
    have f04 : X0.cell? ⟨w.heap.size + 1, 4, none⟩ = some (.int .i64 i.d) := cell_of_block KB0.out rfl
    have f05 : X0.cell? ⟨w.heap.size + 1, 5, none⟩ = some (.string ⟨i.x.toArray⟩) := cell_of_block KB0.out rfl
    go_wp2_with fail
    refine (HG.out X0 BX0).mono ?_
    rintro e X1 ⟨rfl, hb1⟩
    have BX1 : Below w.heap.size w X1 := BX0.trans (hb1.mono BX0.size)
    have hs1 : w.heap.size + 2 ≤ X1.heap.size := Nat.le_trans hs0 hb1.size
    have KA1 := Lib.hid ((hb1.block _ (by omega)).trans KA0.out)
    have KB1 := Lib.hid ((hb1.block _ (by omega)).trans KB0.out)
    clear hb1
    clear d00 d01 d02 d03 d04 d05 f00 f01 f02 f03 f04 f05
    have d10 : X1.cell? ⟨w.heap.size, 0, none⟩ = some (.int .i64 h.k) := cell_of_block KA1.out rfl
    have d11 : X1.cell? ⟨w.heap.size, 1, none⟩ = some (.string ⟨h.l.toArray⟩) := cell_of_block KA1.out rfl
    have d12 : X1.cell? ⟨w.heap.size, 2, none⟩ = some (.slice aa h.ats.length ca) := cell_of_block KA1.out rfl
    have d13 : X1.cell? ⟨w.heap.size, 3, none⟩ = some (.int .i64 h.n) := cell_of_block KA1.out rfl
    have d14 : X1.cell? ⟨w.heap.size, 4, none⟩ = some (.int .i64 h.d) := cell_of_block KA1.out rfl
    have d15 : X1.cell? ⟨w.heap.size, 5, none⟩ = some (.string ⟨h.x.toArray⟩) := cell_of_block KA1.out rfl
    have f10 : X1.cell? ⟨w.heap.size + 1, 0, none⟩ = some (.int .i64 i.k) := cell_of_block KB1.out rfl
    have f11 : X1.cell? ⟨w.heap.size + 1, 1, none⟩ = some (.string ⟨i.l.toArray⟩) := cell_of_block KB1.out rfl
    have f12 : X1.cell? ⟨w.heap.size + 1, 2, none⟩ = some (.slice ab i.ats.length cb) := cell_of_block KB1.out rfl
    have f13 : X1.cell? ⟨w.heap.size + 1, 3, none⟩ = some (.int .i64 i.n) := cell_of_block KB1.out rfl
    have f14 : X1.cell? ⟨w.heap.size + 1, 4, none⟩ = some (.int .i64 i.d) := cell_of_block KB1.out rfl
    have f15 : X1.cell? ⟨w.heap.size + 1, 5, none⟩ = some (.string ⟨i.x.toArray⟩) := cell_of_block KB1.out rfl
    go_wp2_with fail
    refine (GR.out _).mono ?_
    rintro e X2 ⟨rfl, hb2⟩
    have BX2 : Below w.heap.size w X2 := BX1.trans (hb2.mono BX1.size)
    have hs2 : w.heap.size + 2 ≤ X2.heap.size := Nat.le_trans hs1 hb2.size
    have KA2 := Lib.hid ((hb2.block _ (by omega)).trans KA1.out)
    have KB2 := Lib.hid ((hb2.block _ (by omega)).trans KB1.out)
    clear hb2
    clear d10 d11 d12 d13 d14 d15 f10 f11 f12 f13 f14 f15
    go_wp2_with fail
    go_ret
    exact ⟨rfl, BX2⟩
  | false =>
    rw [h1] at HG
    cases h2 : greatHead i with
    | true =>
      rw [h2] at IG
      clear ha hb hl hg h1 h2
      go_enter Tryz.func4, Tryz.ntmps4
      go_upto_region 1 with fail

      have k0 : ((w.alloc (.cells #[.int .i64 h.k, .string ⟨h.l.toArray⟩, .slice aa h.ats.length ca, .int .i64 h.n, .int .i64 h.d, .string ⟨h.x.toArray⟩] 27)).alloc (.cells #[.int .i64 i.k, .string ⟨i.l.toArray⟩, .slice ab i.ats.length cb, .int .i64 i.n, .int .i64 i.d, .string ⟨i.x.toArray⟩] 27)).heap[w.heap.size]? = some (.cells #[.int .i64 h.k, .string ⟨h.l.toArray⟩, .slice aa h.ats.length ca, .int .i64 h.n, .int .i64 h.d, .string ⟨h.x.toArray⟩] 27) := (Below.heap_alloc _ _ _ (by simp)).trans (World.alloc_heap_new w (.cells #[.int .i64 h.k, .string ⟨h.l.toArray⟩, .slice aa h.ats.length ca, .int .i64 h.n, .int .i64 h.d, .string ⟨h.x.toArray⟩] 27))
      have k1 : ((w.alloc (.cells #[.int .i64 h.k, .string ⟨h.l.toArray⟩, .slice aa h.ats.length ca, .int .i64 h.n, .int .i64 h.d, .string ⟨h.x.toArray⟩] 27)).alloc (.cells #[.int .i64 i.k, .string ⟨i.l.toArray⟩, .slice ab i.ats.length cb, .int .i64 i.n, .int .i64 i.d, .string ⟨i.x.toArray⟩] 27)).heap[w.heap.size + 1]? = some (.cells #[.int .i64 i.k, .string ⟨i.l.toArray⟩, .slice ab i.ats.length cb, .int .i64 i.n, .int .i64 i.d, .string ⟨i.x.toArray⟩] 27) := by
        have := World.alloc_heap_new (w.alloc (.cells #[.int .i64 h.k, .string ⟨h.l.toArray⟩, .slice aa h.ats.length ca, .int .i64 h.n, .int .i64 h.d, .string ⟨h.x.toArray⟩] 27)) (.cells #[.int .i64 i.k, .string ⟨i.l.toArray⟩, .slice ab i.ats.length cb, .int .i64 i.n, .int .i64 i.d, .string ⟨i.x.toArray⟩] 27)
        rw [show (w.alloc (.cells #[.int .i64 h.k, .string ⟨h.l.toArray⟩, .slice aa h.ats.length ca, .int .i64 h.n, .int .i64 h.d, .string ⟨h.x.toArray⟩] 27)).heap.size = w.heap.size + 1 by simp] at this
        exact this
      have BX0 : Below w.heap.size w ((w.alloc (.cells #[.int .i64 h.k, .string ⟨h.l.toArray⟩, .slice aa h.ats.length ca, .int .i64 h.n, .int .i64 h.d, .string ⟨h.x.toArray⟩] 27)).alloc (.cells #[.int .i64 i.k, .string ⟨i.l.toArray⟩, .slice ab i.ats.length cb, .int .i64 i.n, .int .i64 i.d, .string ⟨i.x.toArray⟩] 27)) := by ((repeat' (first | exact Below.refl _ _ | assumption | refine Below.setCell ?_ ?_ _ | refine bdrewN ?_ _ | refine Below.drew ?_ | refine Below.alloc ?_ ?_ _ | refine bbehind ?_ (by assumption) ?_)); all_goals first | (simp; done) | (simp; omega) | omega)
      have hs0 : w.heap.size + 2 ≤ ((w.alloc (.cells #[.int .i64 h.k, .string ⟨h.l.toArray⟩, .slice aa h.ats.length ca, .int .i64 h.n, .int .i64 h.d, .string ⟨h.x.toArray⟩] 27)).alloc (.cells #[.int .i64 i.k, .string ⟨i.l.toArray⟩, .slice ab i.ats.length cb, .int .i64 i.n, .int .i64 i.d, .string ⟨i.x.toArray⟩] 27)).heap.size := by simp
      generalize (w.alloc (.cells #[.int .i64 h.k, .string ⟨h.l.toArray⟩, .slice aa h.ats.length ca, .int .i64 h.n, .int .i64 h.d, .string ⟨h.x.toArray⟩] 27)).alloc (.cells #[.int .i64 i.k, .string ⟨i.l.toArray⟩, .slice ab i.ats.length cb, .int .i64 i.n, .int .i64 i.d, .string ⟨i.x.toArray⟩] 27) = X0 at *
      have KA0 := Lib.hid k0
      have KB0 := Lib.hid k1
      clear k0 k1
      have d00 : X0.cell? ⟨w.heap.size, 0, none⟩ = some (.int .i64 h.k) := cell_of_block KA0.out rfl
      have d01 : X0.cell? ⟨w.heap.size, 1, none⟩ = some (.string ⟨h.l.toArray⟩) := cell_of_block KA0.out rfl
      have d02 : X0.cell? ⟨w.heap.size, 2, none⟩ = some (.slice aa h.ats.length ca) := cell_of_block KA0.out rfl
      have d03 : X0.cell? ⟨w.heap.size, 3, none⟩ = some (.int .i64 h.n) := cell_of_block KA0.out rfl
      have d04 : X0.cell? ⟨w.heap.size, 4, none⟩ = some (.int .i64 h.d) := cell_of_block KA0.out rfl
      have d05 : X0.cell? ⟨w.heap.size, 5, none⟩ = some (.string ⟨h.x.toArray⟩) := cell_of_block KA0.out rfl
      have f00 : X0.cell? ⟨w.heap.size + 1, 0, none⟩ = some (.int .i64 i.k) := cell_of_block KB0.out rfl
      have f01 : X0.cell? ⟨w.heap.size + 1, 1, none⟩ = some (.string ⟨i.l.toArray⟩) := cell_of_block KB0.out rfl
      have f02 : X0.cell? ⟨w.heap.size + 1, 2, none⟩ = some (.slice ab i.ats.length cb) := cell_of_block KB0.out rfl
      have f03 : X0.cell? ⟨w.heap.size + 1, 3, none⟩ = some (.int .i64 i.n) := cell_of_block KB0.out rfl
      have f04 : X0.cell? ⟨w.heap.size + 1, 4, none⟩ = some (.int .i64 i.d) := cell_of_block KB0.out rfl
      have f05 : X0.cell? ⟨w.heap.size + 1, 5, none⟩ = some (.string ⟨i.x.toArray⟩) := cell_of_block KB0.out rfl
      go_wp2_with fail
      refine (HG.out X0 BX0).mono ?_
      rintro e X1 ⟨rfl, hb1⟩
      have BX1 : Below w.heap.size w X1 := BX0.trans (hb1.mono BX0.size)
      have hs1 : w.heap.size + 2 ≤ X1.heap.size := Nat.le_trans hs0 hb1.size
      have KA1 := Lib.hid ((hb1.block _ (by omega)).trans KA0.out)
      have KB1 := Lib.hid ((hb1.block _ (by omega)).trans KB0.out)
      clear hb1
      clear d00 d01 d02 d03 d04 d05 f00 f01 f02 f03 f04 f05
      have d10 : X1.cell? ⟨w.heap.size, 0, none⟩ = some (.int .i64 h.k) := cell_of_block KA1.out rfl
      have d11 : X1.cell? ⟨w.heap.size, 1, none⟩ = some (.string ⟨h.l.toArray⟩) := cell_of_block KA1.out rfl
      have d12 : X1.cell? ⟨w.heap.size, 2, none⟩ = some (.slice aa h.ats.length ca) := cell_of_block KA1.out rfl
      have d13 : X1.cell? ⟨w.heap.size, 3, none⟩ = some (.int .i64 h.n) := cell_of_block KA1.out rfl
      have d14 : X1.cell? ⟨w.heap.size, 4, none⟩ = some (.int .i64 h.d) := cell_of_block KA1.out rfl
      have d15 : X1.cell? ⟨w.heap.size, 5, none⟩ = some (.string ⟨h.x.toArray⟩) := cell_of_block KA1.out rfl
      have f10 : X1.cell? ⟨w.heap.size + 1, 0, none⟩ = some (.int .i64 i.k) := cell_of_block KB1.out rfl
      have f11 : X1.cell? ⟨w.heap.size + 1, 1, none⟩ = some (.string ⟨i.l.toArray⟩) := cell_of_block KB1.out rfl
      have f12 : X1.cell? ⟨w.heap.size + 1, 2, none⟩ = some (.slice ab i.ats.length cb) := cell_of_block KB1.out rfl
      have f13 : X1.cell? ⟨w.heap.size + 1, 3, none⟩ = some (.int .i64 i.n) := cell_of_block KB1.out rfl
      have f14 : X1.cell? ⟨w.heap.size + 1, 4, none⟩ = some (.int .i64 i.d) := cell_of_block KB1.out rfl
      have f15 : X1.cell? ⟨w.heap.size + 1, 5, none⟩ = some (.string ⟨i.x.toArray⟩) := cell_of_block KB1.out rfl
      go_wp2_with fail
      refine (IG.out X1 BX1).mono ?_
      rintro e X2 ⟨rfl, hb2⟩
      have BX2 : Below w.heap.size w X2 := BX1.trans (hb2.mono BX1.size)
      have hs2 : w.heap.size + 2 ≤ X2.heap.size := Nat.le_trans hs1 hb2.size
      have KA2 := Lib.hid ((hb2.block _ (by omega)).trans KA1.out)
      have KB2 := Lib.hid ((hb2.block _ (by omega)).trans KB1.out)
      clear hb2
      clear d10 d11 d12 d13 d14 d15 f10 f11 f12 f13 f14 f15
      have d20 : X2.cell? ⟨w.heap.size, 0, none⟩ = some (.int .i64 h.k) := cell_of_block KA2.out rfl
      have d21 : X2.cell? ⟨w.heap.size, 1, none⟩ = some (.string ⟨h.l.toArray⟩) := cell_of_block KA2.out rfl
      have d22 : X2.cell? ⟨w.heap.size, 2, none⟩ = some (.slice aa h.ats.length ca) := cell_of_block KA2.out rfl
      have d23 : X2.cell? ⟨w.heap.size, 3, none⟩ = some (.int .i64 h.n) := cell_of_block KA2.out rfl
      have d24 : X2.cell? ⟨w.heap.size, 4, none⟩ = some (.int .i64 h.d) := cell_of_block KA2.out rfl
      have d25 : X2.cell? ⟨w.heap.size, 5, none⟩ = some (.string ⟨h.x.toArray⟩) := cell_of_block KA2.out rfl
      have f20 : X2.cell? ⟨w.heap.size + 1, 0, none⟩ = some (.int .i64 i.k) := cell_of_block KB2.out rfl
      have f21 : X2.cell? ⟨w.heap.size + 1, 1, none⟩ = some (.string ⟨i.l.toArray⟩) := cell_of_block KB2.out rfl
      have f22 : X2.cell? ⟨w.heap.size + 1, 2, none⟩ = some (.slice ab i.ats.length cb) := cell_of_block KB2.out rfl
      have f23 : X2.cell? ⟨w.heap.size + 1, 3, none⟩ = some (.int .i64 i.n) := cell_of_block KB2.out rfl
      have f24 : X2.cell? ⟨w.heap.size + 1, 4, none⟩ = some (.int .i64 i.d) := cell_of_block KB2.out rfl
      have f25 : X2.cell? ⟨w.heap.size + 1, 5, none⟩ = some (.string ⟨i.x.toArray⟩) := cell_of_block KB2.out rfl
      go_wp2_with fail
      refine (GR.out _).mono ?_
      rintro e X3 ⟨rfl, hb3⟩
      have BX3 : Below w.heap.size w X3 := BX2.trans (hb3.mono BX2.size)
      have hs3 : w.heap.size + 2 ≤ X3.heap.size := Nat.le_trans hs2 hb3.size
      have KA3 := Lib.hid ((hb3.block _ (by omega)).trans KA2.out)
      have KB3 := Lib.hid ((hb3.block _ (by omega)).trans KB2.out)
      clear hb3
      clear d20 d21 d22 d23 d24 d25 f20 f21 f22 f23 f24 f25
      go_wp2_with fail
      go_ret
      exact ⟨rfl, BX3⟩
    | false =>
      rw [h2] at IG
      cases h3 : great f with
      | true =>
        rw [h3] at FG
        clear ha hb hl hg h1 h2 h3
        go_enter Tryz.func4, Tryz.ntmps4
        go_upto_region 1 with fail

        have k0 : ((w.alloc (.cells #[.int .i64 h.k, .string ⟨h.l.toArray⟩, .slice aa h.ats.length ca, .int .i64 h.n, .int .i64 h.d, .string ⟨h.x.toArray⟩] 27)).alloc (.cells #[.int .i64 i.k, .string ⟨i.l.toArray⟩, .slice ab i.ats.length cb, .int .i64 i.n, .int .i64 i.d, .string ⟨i.x.toArray⟩] 27)).heap[w.heap.size]? = some (.cells #[.int .i64 h.k, .string ⟨h.l.toArray⟩, .slice aa h.ats.length ca, .int .i64 h.n, .int .i64 h.d, .string ⟨h.x.toArray⟩] 27) := (Below.heap_alloc _ _ _ (by simp)).trans (World.alloc_heap_new w (.cells #[.int .i64 h.k, .string ⟨h.l.toArray⟩, .slice aa h.ats.length ca, .int .i64 h.n, .int .i64 h.d, .string ⟨h.x.toArray⟩] 27))
        have k1 : ((w.alloc (.cells #[.int .i64 h.k, .string ⟨h.l.toArray⟩, .slice aa h.ats.length ca, .int .i64 h.n, .int .i64 h.d, .string ⟨h.x.toArray⟩] 27)).alloc (.cells #[.int .i64 i.k, .string ⟨i.l.toArray⟩, .slice ab i.ats.length cb, .int .i64 i.n, .int .i64 i.d, .string ⟨i.x.toArray⟩] 27)).heap[w.heap.size + 1]? = some (.cells #[.int .i64 i.k, .string ⟨i.l.toArray⟩, .slice ab i.ats.length cb, .int .i64 i.n, .int .i64 i.d, .string ⟨i.x.toArray⟩] 27) := by
          have := World.alloc_heap_new (w.alloc (.cells #[.int .i64 h.k, .string ⟨h.l.toArray⟩, .slice aa h.ats.length ca, .int .i64 h.n, .int .i64 h.d, .string ⟨h.x.toArray⟩] 27)) (.cells #[.int .i64 i.k, .string ⟨i.l.toArray⟩, .slice ab i.ats.length cb, .int .i64 i.n, .int .i64 i.d, .string ⟨i.x.toArray⟩] 27)
          rw [show (w.alloc (.cells #[.int .i64 h.k, .string ⟨h.l.toArray⟩, .slice aa h.ats.length ca, .int .i64 h.n, .int .i64 h.d, .string ⟨h.x.toArray⟩] 27)).heap.size = w.heap.size + 1 by simp] at this
          exact this
        have BX0 : Below w.heap.size w ((w.alloc (.cells #[.int .i64 h.k, .string ⟨h.l.toArray⟩, .slice aa h.ats.length ca, .int .i64 h.n, .int .i64 h.d, .string ⟨h.x.toArray⟩] 27)).alloc (.cells #[.int .i64 i.k, .string ⟨i.l.toArray⟩, .slice ab i.ats.length cb, .int .i64 i.n, .int .i64 i.d, .string ⟨i.x.toArray⟩] 27)) := by ((repeat' (first | exact Below.refl _ _ | assumption | refine Below.setCell ?_ ?_ _ | refine bdrewN ?_ _ | refine Below.drew ?_ | refine Below.alloc ?_ ?_ _ | refine bbehind ?_ (by assumption) ?_)); all_goals first | (simp; done) | (simp; omega) | omega)
        have hs0 : w.heap.size + 2 ≤ ((w.alloc (.cells #[.int .i64 h.k, .string ⟨h.l.toArray⟩, .slice aa h.ats.length ca, .int .i64 h.n, .int .i64 h.d, .string ⟨h.x.toArray⟩] 27)).alloc (.cells #[.int .i64 i.k, .string ⟨i.l.toArray⟩, .slice ab i.ats.length cb, .int .i64 i.n, .int .i64 i.d, .string ⟨i.x.toArray⟩] 27)).heap.size := by simp
        generalize (w.alloc (.cells #[.int .i64 h.k, .string ⟨h.l.toArray⟩, .slice aa h.ats.length ca, .int .i64 h.n, .int .i64 h.d, .string ⟨h.x.toArray⟩] 27)).alloc (.cells #[.int .i64 i.k, .string ⟨i.l.toArray⟩, .slice ab i.ats.length cb, .int .i64 i.n, .int .i64 i.d, .string ⟨i.x.toArray⟩] 27) = X0 at *
        have KA0 := Lib.hid k0
        have KB0 := Lib.hid k1
        clear k0 k1
        have d00 : X0.cell? ⟨w.heap.size, 0, none⟩ = some (.int .i64 h.k) := cell_of_block KA0.out rfl
        have d01 : X0.cell? ⟨w.heap.size, 1, none⟩ = some (.string ⟨h.l.toArray⟩) := cell_of_block KA0.out rfl
        have d02 : X0.cell? ⟨w.heap.size, 2, none⟩ = some (.slice aa h.ats.length ca) := cell_of_block KA0.out rfl
        have d03 : X0.cell? ⟨w.heap.size, 3, none⟩ = some (.int .i64 h.n) := cell_of_block KA0.out rfl
        have d04 : X0.cell? ⟨w.heap.size, 4, none⟩ = some (.int .i64 h.d) := cell_of_block KA0.out rfl
        have d05 : X0.cell? ⟨w.heap.size, 5, none⟩ = some (.string ⟨h.x.toArray⟩) := cell_of_block KA0.out rfl
        have f00 : X0.cell? ⟨w.heap.size + 1, 0, none⟩ = some (.int .i64 i.k) := cell_of_block KB0.out rfl
        have f01 : X0.cell? ⟨w.heap.size + 1, 1, none⟩ = some (.string ⟨i.l.toArray⟩) := cell_of_block KB0.out rfl
        have f02 : X0.cell? ⟨w.heap.size + 1, 2, none⟩ = some (.slice ab i.ats.length cb) := cell_of_block KB0.out rfl
        have f03 : X0.cell? ⟨w.heap.size + 1, 3, none⟩ = some (.int .i64 i.n) := cell_of_block KB0.out rfl
        have f04 : X0.cell? ⟨w.heap.size + 1, 4, none⟩ = some (.int .i64 i.d) := cell_of_block KB0.out rfl
        have f05 : X0.cell? ⟨w.heap.size + 1, 5, none⟩ = some (.string ⟨i.x.toArray⟩) := cell_of_block KB0.out rfl
        go_wp2_with fail
        refine (HG.out X0 BX0).mono ?_
        rintro e X1 ⟨rfl, hb1⟩
        have BX1 : Below w.heap.size w X1 := BX0.trans (hb1.mono BX0.size)
        have hs1 : w.heap.size + 2 ≤ X1.heap.size := Nat.le_trans hs0 hb1.size
        have KA1 := Lib.hid ((hb1.block _ (by omega)).trans KA0.out)
        have KB1 := Lib.hid ((hb1.block _ (by omega)).trans KB0.out)
        clear hb1
        clear d00 d01 d02 d03 d04 d05 f00 f01 f02 f03 f04 f05
        have d10 : X1.cell? ⟨w.heap.size, 0, none⟩ = some (.int .i64 h.k) := cell_of_block KA1.out rfl
        have d11 : X1.cell? ⟨w.heap.size, 1, none⟩ = some (.string ⟨h.l.toArray⟩) := cell_of_block KA1.out rfl
        have d12 : X1.cell? ⟨w.heap.size, 2, none⟩ = some (.slice aa h.ats.length ca) := cell_of_block KA1.out rfl
        have d13 : X1.cell? ⟨w.heap.size, 3, none⟩ = some (.int .i64 h.n) := cell_of_block KA1.out rfl
        have d14 : X1.cell? ⟨w.heap.size, 4, none⟩ = some (.int .i64 h.d) := cell_of_block KA1.out rfl
        have d15 : X1.cell? ⟨w.heap.size, 5, none⟩ = some (.string ⟨h.x.toArray⟩) := cell_of_block KA1.out rfl
        have f10 : X1.cell? ⟨w.heap.size + 1, 0, none⟩ = some (.int .i64 i.k) := cell_of_block KB1.out rfl
        have f11 : X1.cell? ⟨w.heap.size + 1, 1, none⟩ = some (.string ⟨i.l.toArray⟩) := cell_of_block KB1.out rfl
        have f12 : X1.cell? ⟨w.heap.size + 1, 2, none⟩ = some (.slice ab i.ats.length cb) := cell_of_block KB1.out rfl
        have f13 : X1.cell? ⟨w.heap.size + 1, 3, none⟩ = some (.int .i64 i.n) := cell_of_block KB1.out rfl
        have f14 : X1.cell? ⟨w.heap.size + 1, 4, none⟩ = some (.int .i64 i.d) := cell_of_block KB1.out rfl
        have f15 : X1.cell? ⟨w.heap.size + 1, 5, none⟩ = some (.string ⟨i.x.toArray⟩) := cell_of_block KB1.out rfl
        go_wp2_with fail
        refine (IG.out X1 BX1).mono ?_
        rintro e X2 ⟨rfl, hb2⟩
        have BX2 : Below w.heap.size w X2 := BX1.trans (hb2.mono BX1.size)
        have hs2 : w.heap.size + 2 ≤ X2.heap.size := Nat.le_trans hs1 hb2.size
        have KA2 := Lib.hid ((hb2.block _ (by omega)).trans KA1.out)
        have KB2 := Lib.hid ((hb2.block _ (by omega)).trans KB1.out)
        clear hb2
        clear d10 d11 d12 d13 d14 d15 f10 f11 f12 f13 f14 f15
        have d20 : X2.cell? ⟨w.heap.size, 0, none⟩ = some (.int .i64 h.k) := cell_of_block KA2.out rfl
        have d21 : X2.cell? ⟨w.heap.size, 1, none⟩ = some (.string ⟨h.l.toArray⟩) := cell_of_block KA2.out rfl
        have d22 : X2.cell? ⟨w.heap.size, 2, none⟩ = some (.slice aa h.ats.length ca) := cell_of_block KA2.out rfl
        have d23 : X2.cell? ⟨w.heap.size, 3, none⟩ = some (.int .i64 h.n) := cell_of_block KA2.out rfl
        have d24 : X2.cell? ⟨w.heap.size, 4, none⟩ = some (.int .i64 h.d) := cell_of_block KA2.out rfl
        have d25 : X2.cell? ⟨w.heap.size, 5, none⟩ = some (.string ⟨h.x.toArray⟩) := cell_of_block KA2.out rfl
        have f20 : X2.cell? ⟨w.heap.size + 1, 0, none⟩ = some (.int .i64 i.k) := cell_of_block KB2.out rfl
        have f21 : X2.cell? ⟨w.heap.size + 1, 1, none⟩ = some (.string ⟨i.l.toArray⟩) := cell_of_block KB2.out rfl
        have f22 : X2.cell? ⟨w.heap.size + 1, 2, none⟩ = some (.slice ab i.ats.length cb) := cell_of_block KB2.out rfl
        have f23 : X2.cell? ⟨w.heap.size + 1, 3, none⟩ = some (.int .i64 i.n) := cell_of_block KB2.out rfl
        have f24 : X2.cell? ⟨w.heap.size + 1, 4, none⟩ = some (.int .i64 i.d) := cell_of_block KB2.out rfl
        have f25 : X2.cell? ⟨w.heap.size + 1, 5, none⟩ = some (.string ⟨i.x.toArray⟩) := cell_of_block KB2.out rfl
        go_wp2_with fail
        refine (FG.out X2 BX2).mono ?_
        rintro e X3 ⟨rfl, hb3⟩
        have BX3 : Below w.heap.size w X3 := BX2.trans (hb3.mono BX2.size)
        have hs3 : w.heap.size + 2 ≤ X3.heap.size := Nat.le_trans hs2 hb3.size
        have KA3 := Lib.hid ((hb3.block _ (by omega)).trans KA2.out)
        have KB3 := Lib.hid ((hb3.block _ (by omega)).trans KB2.out)
        clear hb3
        clear d20 d21 d22 d23 d24 d25 f20 f21 f22 f23 f24 f25
        have d30 : X3.cell? ⟨w.heap.size, 0, none⟩ = some (.int .i64 h.k) := cell_of_block KA3.out rfl
        have d31 : X3.cell? ⟨w.heap.size, 1, none⟩ = some (.string ⟨h.l.toArray⟩) := cell_of_block KA3.out rfl
        have d32 : X3.cell? ⟨w.heap.size, 2, none⟩ = some (.slice aa h.ats.length ca) := cell_of_block KA3.out rfl
        have d33 : X3.cell? ⟨w.heap.size, 3, none⟩ = some (.int .i64 h.n) := cell_of_block KA3.out rfl
        have d34 : X3.cell? ⟨w.heap.size, 4, none⟩ = some (.int .i64 h.d) := cell_of_block KA3.out rfl
        have d35 : X3.cell? ⟨w.heap.size, 5, none⟩ = some (.string ⟨h.x.toArray⟩) := cell_of_block KA3.out rfl
        have f30 : X3.cell? ⟨w.heap.size + 1, 0, none⟩ = some (.int .i64 i.k) := cell_of_block KB3.out rfl
        have f31 : X3.cell? ⟨w.heap.size + 1, 1, none⟩ = some (.string ⟨i.l.toArray⟩) := cell_of_block KB3.out rfl
        have f32 : X3.cell? ⟨w.heap.size + 1, 2, none⟩ = some (.slice ab i.ats.length cb) := cell_of_block KB3.out rfl
        have f33 : X3.cell? ⟨w.heap.size + 1, 3, none⟩ = some (.int .i64 i.n) := cell_of_block KB3.out rfl
        have f34 : X3.cell? ⟨w.heap.size + 1, 4, none⟩ = some (.int .i64 i.d) := cell_of_block KB3.out rfl
        have f35 : X3.cell? ⟨w.heap.size + 1, 5, none⟩ = some (.string ⟨i.x.toArray⟩) := cell_of_block KB3.out rfl
        go_wp2_with fail
        refine (GR.out _).mono ?_
        rintro e X4 ⟨rfl, hb4⟩
        have BX4 : Below w.heap.size w X4 := BX3.trans (hb4.mono BX3.size)
        have hs4 : w.heap.size + 2 ≤ X4.heap.size := Nat.le_trans hs3 hb4.size
        have KA4 := Lib.hid ((hb4.block _ (by omega)).trans KA3.out)
        have KB4 := Lib.hid ((hb4.block _ (by omega)).trans KB3.out)
        clear hb4
        clear d30 d31 d32 d33 d34 d35 f30 f31 f32 f33 f34 f35
        go_wp2_with fail
        go_ret
        exact ⟨rfl, BX4⟩
      | false =>
        rw [h3] at FG
        cases h4 : great g with
        | true =>
          rw [h4] at GG
          clear ha hb hl hg h1 h2 h3 h4
          go_enter Tryz.func4, Tryz.ntmps4
          go_upto_region 1 with fail

          have k0 : ((w.alloc (.cells #[.int .i64 h.k, .string ⟨h.l.toArray⟩, .slice aa h.ats.length ca, .int .i64 h.n, .int .i64 h.d, .string ⟨h.x.toArray⟩] 27)).alloc (.cells #[.int .i64 i.k, .string ⟨i.l.toArray⟩, .slice ab i.ats.length cb, .int .i64 i.n, .int .i64 i.d, .string ⟨i.x.toArray⟩] 27)).heap[w.heap.size]? = some (.cells #[.int .i64 h.k, .string ⟨h.l.toArray⟩, .slice aa h.ats.length ca, .int .i64 h.n, .int .i64 h.d, .string ⟨h.x.toArray⟩] 27) := (Below.heap_alloc _ _ _ (by simp)).trans (World.alloc_heap_new w (.cells #[.int .i64 h.k, .string ⟨h.l.toArray⟩, .slice aa h.ats.length ca, .int .i64 h.n, .int .i64 h.d, .string ⟨h.x.toArray⟩] 27))
          have k1 : ((w.alloc (.cells #[.int .i64 h.k, .string ⟨h.l.toArray⟩, .slice aa h.ats.length ca, .int .i64 h.n, .int .i64 h.d, .string ⟨h.x.toArray⟩] 27)).alloc (.cells #[.int .i64 i.k, .string ⟨i.l.toArray⟩, .slice ab i.ats.length cb, .int .i64 i.n, .int .i64 i.d, .string ⟨i.x.toArray⟩] 27)).heap[w.heap.size + 1]? = some (.cells #[.int .i64 i.k, .string ⟨i.l.toArray⟩, .slice ab i.ats.length cb, .int .i64 i.n, .int .i64 i.d, .string ⟨i.x.toArray⟩] 27) := by
            have := World.alloc_heap_new (w.alloc (.cells #[.int .i64 h.k, .string ⟨h.l.toArray⟩, .slice aa h.ats.length ca, .int .i64 h.n, .int .i64 h.d, .string ⟨h.x.toArray⟩] 27)) (.cells #[.int .i64 i.k, .string ⟨i.l.toArray⟩, .slice ab i.ats.length cb, .int .i64 i.n, .int .i64 i.d, .string ⟨i.x.toArray⟩] 27)
            rw [show (w.alloc (.cells #[.int .i64 h.k, .string ⟨h.l.toArray⟩, .slice aa h.ats.length ca, .int .i64 h.n, .int .i64 h.d, .string ⟨h.x.toArray⟩] 27)).heap.size = w.heap.size + 1 by simp] at this
            exact this
          have BX0 : Below w.heap.size w ((w.alloc (.cells #[.int .i64 h.k, .string ⟨h.l.toArray⟩, .slice aa h.ats.length ca, .int .i64 h.n, .int .i64 h.d, .string ⟨h.x.toArray⟩] 27)).alloc (.cells #[.int .i64 i.k, .string ⟨i.l.toArray⟩, .slice ab i.ats.length cb, .int .i64 i.n, .int .i64 i.d, .string ⟨i.x.toArray⟩] 27)) := by ((repeat' (first | exact Below.refl _ _ | assumption | refine Below.setCell ?_ ?_ _ | refine bdrewN ?_ _ | refine Below.drew ?_ | refine Below.alloc ?_ ?_ _ | refine bbehind ?_ (by assumption) ?_)); all_goals first | (simp; done) | (simp; omega) | omega)
          have hs0 : w.heap.size + 2 ≤ ((w.alloc (.cells #[.int .i64 h.k, .string ⟨h.l.toArray⟩, .slice aa h.ats.length ca, .int .i64 h.n, .int .i64 h.d, .string ⟨h.x.toArray⟩] 27)).alloc (.cells #[.int .i64 i.k, .string ⟨i.l.toArray⟩, .slice ab i.ats.length cb, .int .i64 i.n, .int .i64 i.d, .string ⟨i.x.toArray⟩] 27)).heap.size := by simp
          generalize (w.alloc (.cells #[.int .i64 h.k, .string ⟨h.l.toArray⟩, .slice aa h.ats.length ca, .int .i64 h.n, .int .i64 h.d, .string ⟨h.x.toArray⟩] 27)).alloc (.cells #[.int .i64 i.k, .string ⟨i.l.toArray⟩, .slice ab i.ats.length cb, .int .i64 i.n, .int .i64 i.d, .string ⟨i.x.toArray⟩] 27) = X0 at *
          have KA0 := Lib.hid k0
          have KB0 := Lib.hid k1
          clear k0 k1
          have d00 : X0.cell? ⟨w.heap.size, 0, none⟩ = some (.int .i64 h.k) := cell_of_block KA0.out rfl
          have d01 : X0.cell? ⟨w.heap.size, 1, none⟩ = some (.string ⟨h.l.toArray⟩) := cell_of_block KA0.out rfl
          have d02 : X0.cell? ⟨w.heap.size, 2, none⟩ = some (.slice aa h.ats.length ca) := cell_of_block KA0.out rfl
          have d03 : X0.cell? ⟨w.heap.size, 3, none⟩ = some (.int .i64 h.n) := cell_of_block KA0.out rfl
          have d04 : X0.cell? ⟨w.heap.size, 4, none⟩ = some (.int .i64 h.d) := cell_of_block KA0.out rfl
          have d05 : X0.cell? ⟨w.heap.size, 5, none⟩ = some (.string ⟨h.x.toArray⟩) := cell_of_block KA0.out rfl
          have f00 : X0.cell? ⟨w.heap.size + 1, 0, none⟩ = some (.int .i64 i.k) := cell_of_block KB0.out rfl
          have f01 : X0.cell? ⟨w.heap.size + 1, 1, none⟩ = some (.string ⟨i.l.toArray⟩) := cell_of_block KB0.out rfl
          have f02 : X0.cell? ⟨w.heap.size + 1, 2, none⟩ = some (.slice ab i.ats.length cb) := cell_of_block KB0.out rfl
          have f03 : X0.cell? ⟨w.heap.size + 1, 3, none⟩ = some (.int .i64 i.n) := cell_of_block KB0.out rfl
          have f04 : X0.cell? ⟨w.heap.size + 1, 4, none⟩ = some (.int .i64 i.d) := cell_of_block KB0.out rfl
          have f05 : X0.cell? ⟨w.heap.size + 1, 5, none⟩ = some (.string ⟨i.x.toArray⟩) := cell_of_block KB0.out rfl
          go_wp2_with fail
          refine (HG.out X0 BX0).mono ?_
          rintro e X1 ⟨rfl, hb1⟩
          have BX1 : Below w.heap.size w X1 := BX0.trans (hb1.mono BX0.size)
          have hs1 : w.heap.size + 2 ≤ X1.heap.size := Nat.le_trans hs0 hb1.size
          have KA1 := Lib.hid ((hb1.block _ (by omega)).trans KA0.out)
          have KB1 := Lib.hid ((hb1.block _ (by omega)).trans KB0.out)
          clear hb1
          clear d00 d01 d02 d03 d04 d05 f00 f01 f02 f03 f04 f05
          have d10 : X1.cell? ⟨w.heap.size, 0, none⟩ = some (.int .i64 h.k) := cell_of_block KA1.out rfl
          have d11 : X1.cell? ⟨w.heap.size, 1, none⟩ = some (.string ⟨h.l.toArray⟩) := cell_of_block KA1.out rfl
          have d12 : X1.cell? ⟨w.heap.size, 2, none⟩ = some (.slice aa h.ats.length ca) := cell_of_block KA1.out rfl
          have d13 : X1.cell? ⟨w.heap.size, 3, none⟩ = some (.int .i64 h.n) := cell_of_block KA1.out rfl
          have d14 : X1.cell? ⟨w.heap.size, 4, none⟩ = some (.int .i64 h.d) := cell_of_block KA1.out rfl
          have d15 : X1.cell? ⟨w.heap.size, 5, none⟩ = some (.string ⟨h.x.toArray⟩) := cell_of_block KA1.out rfl
          have f10 : X1.cell? ⟨w.heap.size + 1, 0, none⟩ = some (.int .i64 i.k) := cell_of_block KB1.out rfl
          have f11 : X1.cell? ⟨w.heap.size + 1, 1, none⟩ = some (.string ⟨i.l.toArray⟩) := cell_of_block KB1.out rfl
          have f12 : X1.cell? ⟨w.heap.size + 1, 2, none⟩ = some (.slice ab i.ats.length cb) := cell_of_block KB1.out rfl
          have f13 : X1.cell? ⟨w.heap.size + 1, 3, none⟩ = some (.int .i64 i.n) := cell_of_block KB1.out rfl
          have f14 : X1.cell? ⟨w.heap.size + 1, 4, none⟩ = some (.int .i64 i.d) := cell_of_block KB1.out rfl
          have f15 : X1.cell? ⟨w.heap.size + 1, 5, none⟩ = some (.string ⟨i.x.toArray⟩) := cell_of_block KB1.out rfl
          go_wp2_with fail
          refine (IG.out X1 BX1).mono ?_
          rintro e X2 ⟨rfl, hb2⟩
          have BX2 : Below w.heap.size w X2 := BX1.trans (hb2.mono BX1.size)
          have hs2 : w.heap.size + 2 ≤ X2.heap.size := Nat.le_trans hs1 hb2.size
          have KA2 := Lib.hid ((hb2.block _ (by omega)).trans KA1.out)
          have KB2 := Lib.hid ((hb2.block _ (by omega)).trans KB1.out)
          clear hb2
          clear d10 d11 d12 d13 d14 d15 f10 f11 f12 f13 f14 f15
          have d20 : X2.cell? ⟨w.heap.size, 0, none⟩ = some (.int .i64 h.k) := cell_of_block KA2.out rfl
          have d21 : X2.cell? ⟨w.heap.size, 1, none⟩ = some (.string ⟨h.l.toArray⟩) := cell_of_block KA2.out rfl
          have d22 : X2.cell? ⟨w.heap.size, 2, none⟩ = some (.slice aa h.ats.length ca) := cell_of_block KA2.out rfl
          have d23 : X2.cell? ⟨w.heap.size, 3, none⟩ = some (.int .i64 h.n) := cell_of_block KA2.out rfl
          have d24 : X2.cell? ⟨w.heap.size, 4, none⟩ = some (.int .i64 h.d) := cell_of_block KA2.out rfl
          have d25 : X2.cell? ⟨w.heap.size, 5, none⟩ = some (.string ⟨h.x.toArray⟩) := cell_of_block KA2.out rfl
          have f20 : X2.cell? ⟨w.heap.size + 1, 0, none⟩ = some (.int .i64 i.k) := cell_of_block KB2.out rfl
          have f21 : X2.cell? ⟨w.heap.size + 1, 1, none⟩ = some (.string ⟨i.l.toArray⟩) := cell_of_block KB2.out rfl
          have f22 : X2.cell? ⟨w.heap.size + 1, 2, none⟩ = some (.slice ab i.ats.length cb) := cell_of_block KB2.out rfl
          have f23 : X2.cell? ⟨w.heap.size + 1, 3, none⟩ = some (.int .i64 i.n) := cell_of_block KB2.out rfl
          have f24 : X2.cell? ⟨w.heap.size + 1, 4, none⟩ = some (.int .i64 i.d) := cell_of_block KB2.out rfl
          have f25 : X2.cell? ⟨w.heap.size + 1, 5, none⟩ = some (.string ⟨i.x.toArray⟩) := cell_of_block KB2.out rfl
          go_wp2_with fail
          refine (FG.out X2 BX2).mono ?_
          rintro e X3 ⟨rfl, hb3⟩
          have BX3 : Below w.heap.size w X3 := BX2.trans (hb3.mono BX2.size)
          have hs3 : w.heap.size + 2 ≤ X3.heap.size := Nat.le_trans hs2 hb3.size
          have KA3 := Lib.hid ((hb3.block _ (by omega)).trans KA2.out)
          have KB3 := Lib.hid ((hb3.block _ (by omega)).trans KB2.out)
          clear hb3
          clear d20 d21 d22 d23 d24 d25 f20 f21 f22 f23 f24 f25
          have d30 : X3.cell? ⟨w.heap.size, 0, none⟩ = some (.int .i64 h.k) := cell_of_block KA3.out rfl
          have d31 : X3.cell? ⟨w.heap.size, 1, none⟩ = some (.string ⟨h.l.toArray⟩) := cell_of_block KA3.out rfl
          have d32 : X3.cell? ⟨w.heap.size, 2, none⟩ = some (.slice aa h.ats.length ca) := cell_of_block KA3.out rfl
          have d33 : X3.cell? ⟨w.heap.size, 3, none⟩ = some (.int .i64 h.n) := cell_of_block KA3.out rfl
          have d34 : X3.cell? ⟨w.heap.size, 4, none⟩ = some (.int .i64 h.d) := cell_of_block KA3.out rfl
          have d35 : X3.cell? ⟨w.heap.size, 5, none⟩ = some (.string ⟨h.x.toArray⟩) := cell_of_block KA3.out rfl
          have f30 : X3.cell? ⟨w.heap.size + 1, 0, none⟩ = some (.int .i64 i.k) := cell_of_block KB3.out rfl
          have f31 : X3.cell? ⟨w.heap.size + 1, 1, none⟩ = some (.string ⟨i.l.toArray⟩) := cell_of_block KB3.out rfl
          have f32 : X3.cell? ⟨w.heap.size + 1, 2, none⟩ = some (.slice ab i.ats.length cb) := cell_of_block KB3.out rfl
          have f33 : X3.cell? ⟨w.heap.size + 1, 3, none⟩ = some (.int .i64 i.n) := cell_of_block KB3.out rfl
          have f34 : X3.cell? ⟨w.heap.size + 1, 4, none⟩ = some (.int .i64 i.d) := cell_of_block KB3.out rfl
          have f35 : X3.cell? ⟨w.heap.size + 1, 5, none⟩ = some (.string ⟨i.x.toArray⟩) := cell_of_block KB3.out rfl
          go_wp2_with fail
          refine (GG.out X3 BX3).mono ?_
          rintro e X4 ⟨rfl, hb4⟩
          have BX4 : Below w.heap.size w X4 := BX3.trans (hb4.mono BX3.size)
          have hs4 : w.heap.size + 2 ≤ X4.heap.size := Nat.le_trans hs3 hb4.size
          have KA4 := Lib.hid ((hb4.block _ (by omega)).trans KA3.out)
          have KB4 := Lib.hid ((hb4.block _ (by omega)).trans KB3.out)
          clear hb4
          clear d30 d31 d32 d33 d34 d35 f30 f31 f32 f33 f34 f35
          have d40 : X4.cell? ⟨w.heap.size, 0, none⟩ = some (.int .i64 h.k) := cell_of_block KA4.out rfl
          have d41 : X4.cell? ⟨w.heap.size, 1, none⟩ = some (.string ⟨h.l.toArray⟩) := cell_of_block KA4.out rfl
          have d42 : X4.cell? ⟨w.heap.size, 2, none⟩ = some (.slice aa h.ats.length ca) := cell_of_block KA4.out rfl
          have d43 : X4.cell? ⟨w.heap.size, 3, none⟩ = some (.int .i64 h.n) := cell_of_block KA4.out rfl
          have d44 : X4.cell? ⟨w.heap.size, 4, none⟩ = some (.int .i64 h.d) := cell_of_block KA4.out rfl
          have d45 : X4.cell? ⟨w.heap.size, 5, none⟩ = some (.string ⟨h.x.toArray⟩) := cell_of_block KA4.out rfl
          have f40 : X4.cell? ⟨w.heap.size + 1, 0, none⟩ = some (.int .i64 i.k) := cell_of_block KB4.out rfl
          have f41 : X4.cell? ⟨w.heap.size + 1, 1, none⟩ = some (.string ⟨i.l.toArray⟩) := cell_of_block KB4.out rfl
          have f42 : X4.cell? ⟨w.heap.size + 1, 2, none⟩ = some (.slice ab i.ats.length cb) := cell_of_block KB4.out rfl
          have f43 : X4.cell? ⟨w.heap.size + 1, 3, none⟩ = some (.int .i64 i.n) := cell_of_block KB4.out rfl
          have f44 : X4.cell? ⟨w.heap.size + 1, 4, none⟩ = some (.int .i64 i.d) := cell_of_block KB4.out rfl
          have f45 : X4.cell? ⟨w.heap.size + 1, 5, none⟩ = some (.string ⟨i.x.toArray⟩) := cell_of_block KB4.out rfl
          go_wp2_with fail
          refine (GR.out _).mono ?_
          rintro e X5 ⟨rfl, hb5⟩
          have BX5 : Below w.heap.size w X5 := BX4.trans (hb5.mono BX4.size)
          have hs5 : w.heap.size + 2 ≤ X5.heap.size := Nat.le_trans hs4 hb5.size
          have KA5 := Lib.hid ((hb5.block _ (by omega)).trans KA4.out)
          have KB5 := Lib.hid ((hb5.block _ (by omega)).trans KB4.out)
          clear hb5
          clear d40 d41 d42 d43 d44 d45 f40 f41 f42 f43 f44 f45
          go_wp2_with fail
          go_ret
          exact ⟨rfl, BX5⟩
        | false =>
          rw [h4] at GG
          have SF := small_lies hl h3
          have SG := small_lies hg h4
          have FH := (hdFit_of h1).1
          have FI := (hdFit_of h2).1
          have TH := Lib.hid (fun w1 (hw : Below w.heap.size w w1) => tcmpHeads_any h i aa ab ca cb w1 (attrs_below ha hw) (attrs_below hb hw) FH FI)
          have QH := Lib.hid (fun w1 (hw : Below w.heap.size w w1) => qcmpHeads_any h i aa ab ca cb w1 (attrs_below ha hw) (attrs_below hb hw) FH FI)
          have TF := Lib.hid (fun w1 (hw : Below w.heap.size w w1) => tcompare_any f g _ _ w1 (lies_below hl hw) (lies_below hg hw) SF SG)
          have QF := Lib.hid (fun w1 (hw : Below w.heap.size w w1) => qcompare_any f g _ _ w1 (lies_below hl hw) (lies_below hg hw) SF SG)
          generalize cmpH h i = R1 at *
          generalize cmpF f g = R2 at *
          obtain ⟨r1, e1⟩ := R1
          obtain ⟨r2, e2⟩ := R2
          simp only at TH QH TF QF
          clear ha hb hl hg h1 h2 h3 h4 SF SG FH FI
          go_enter Tryz.func4, Tryz.ntmps4
          go_upto_region 1 with fail

          have k0 : ((w.alloc (.cells #[.int .i64 h.k, .string ⟨h.l.toArray⟩, .slice aa h.ats.length ca, .int .i64 h.n, .int .i64 h.d, .string ⟨h.x.toArray⟩] 27)).alloc (.cells #[.int .i64 i.k, .string ⟨i.l.toArray⟩, .slice ab i.ats.length cb, .int .i64 i.n, .int .i64 i.d, .string ⟨i.x.toArray⟩] 27)).heap[w.heap.size]? = some (.cells #[.int .i64 h.k, .string ⟨h.l.toArray⟩, .slice aa h.ats.length ca, .int .i64 h.n, .int .i64 h.d, .string ⟨h.x.toArray⟩] 27) := (Below.heap_alloc _ _ _ (by simp)).trans (World.alloc_heap_new w (.cells #[.int .i64 h.k, .string ⟨h.l.toArray⟩, .slice aa h.ats.length ca, .int .i64 h.n, .int .i64 h.d, .string ⟨h.x.toArray⟩] 27))
          have k1 : ((w.alloc (.cells #[.int .i64 h.k, .string ⟨h.l.toArray⟩, .slice aa h.ats.length ca, .int .i64 h.n, .int .i64 h.d, .string ⟨h.x.toArray⟩] 27)).alloc (.cells #[.int .i64 i.k, .string ⟨i.l.toArray⟩, .slice ab i.ats.length cb, .int .i64 i.n, .int .i64 i.d, .string ⟨i.x.toArray⟩] 27)).heap[w.heap.size + 1]? = some (.cells #[.int .i64 i.k, .string ⟨i.l.toArray⟩, .slice ab i.ats.length cb, .int .i64 i.n, .int .i64 i.d, .string ⟨i.x.toArray⟩] 27) := by
            have := World.alloc_heap_new (w.alloc (.cells #[.int .i64 h.k, .string ⟨h.l.toArray⟩, .slice aa h.ats.length ca, .int .i64 h.n, .int .i64 h.d, .string ⟨h.x.toArray⟩] 27)) (.cells #[.int .i64 i.k, .string ⟨i.l.toArray⟩, .slice ab i.ats.length cb, .int .i64 i.n, .int .i64 i.d, .string ⟨i.x.toArray⟩] 27)
            rw [show (w.alloc (.cells #[.int .i64 h.k, .string ⟨h.l.toArray⟩, .slice aa h.ats.length ca, .int .i64 h.n, .int .i64 h.d, .string ⟨h.x.toArray⟩] 27)).heap.size = w.heap.size + 1 by simp] at this
            exact this
          have BX0 : Below w.heap.size w ((w.alloc (.cells #[.int .i64 h.k, .string ⟨h.l.toArray⟩, .slice aa h.ats.length ca, .int .i64 h.n, .int .i64 h.d, .string ⟨h.x.toArray⟩] 27)).alloc (.cells #[.int .i64 i.k, .string ⟨i.l.toArray⟩, .slice ab i.ats.length cb, .int .i64 i.n, .int .i64 i.d, .string ⟨i.x.toArray⟩] 27)) := by ((repeat' (first | exact Below.refl _ _ | assumption | refine Below.setCell ?_ ?_ _ | refine bdrewN ?_ _ | refine Below.drew ?_ | refine Below.alloc ?_ ?_ _ | refine bbehind ?_ (by assumption) ?_)); all_goals first | (simp; done) | (simp; omega) | omega)
          have hs0 : w.heap.size + 2 ≤ ((w.alloc (.cells #[.int .i64 h.k, .string ⟨h.l.toArray⟩, .slice aa h.ats.length ca, .int .i64 h.n, .int .i64 h.d, .string ⟨h.x.toArray⟩] 27)).alloc (.cells #[.int .i64 i.k, .string ⟨i.l.toArray⟩, .slice ab i.ats.length cb, .int .i64 i.n, .int .i64 i.d, .string ⟨i.x.toArray⟩] 27)).heap.size := by simp
          generalize (w.alloc (.cells #[.int .i64 h.k, .string ⟨h.l.toArray⟩, .slice aa h.ats.length ca, .int .i64 h.n, .int .i64 h.d, .string ⟨h.x.toArray⟩] 27)).alloc (.cells #[.int .i64 i.k, .string ⟨i.l.toArray⟩, .slice ab i.ats.length cb, .int .i64 i.n, .int .i64 i.d, .string ⟨i.x.toArray⟩] 27) = X0 at *
          have KA0 := Lib.hid k0
          have KB0 := Lib.hid k1
          clear k0 k1
          have d00 : X0.cell? ⟨w.heap.size, 0, none⟩ = some (.int .i64 h.k) := cell_of_block KA0.out rfl
          have d01 : X0.cell? ⟨w.heap.size, 1, none⟩ = some (.string ⟨h.l.toArray⟩) := cell_of_block KA0.out rfl
          have d02 : X0.cell? ⟨w.heap.size, 2, none⟩ = some (.slice aa h.ats.length ca) := cell_of_block KA0.out rfl
          have d03 : X0.cell? ⟨w.heap.size, 3, none⟩ = some (.int .i64 h.n) := cell_of_block KA0.out rfl
          have d04 : X0.cell? ⟨w.heap.size, 4, none⟩ = some (.int .i64 h.d) := cell_of_block KA0.out rfl
          have d05 : X0.cell? ⟨w.heap.size, 5, none⟩ = some (.string ⟨h.x.toArray⟩) := cell_of_block KA0.out rfl
          have f00 : X0.cell? ⟨w.heap.size + 1, 0, none⟩ = some (.int .i64 i.k) := cell_of_block KB0.out rfl
          have f01 : X0.cell? ⟨w.heap.size + 1, 1, none⟩ = some (.string ⟨i.l.toArray⟩) := cell_of_block KB0.out rfl
          have f02 : X0.cell? ⟨w.heap.size + 1, 2, none⟩ = some (.slice ab i.ats.length cb) := cell_of_block KB0.out rfl
          have f03 : X0.cell? ⟨w.heap.size + 1, 3, none⟩ = some (.int .i64 i.n) := cell_of_block KB0.out rfl
          have f04 : X0.cell? ⟨w.heap.size + 1, 4, none⟩ = some (.int .i64 i.d) := cell_of_block KB0.out rfl
          have f05 : X0.cell? ⟨w.heap.size + 1, 5, none⟩ = some (.string ⟨i.x.toArray⟩) := cell_of_block KB0.out rfl
          go_wp2_with fail
          refine (HG.out X0 BX0).mono ?_
          rintro e X1 ⟨rfl, hb1⟩
          have BX1 : Below w.heap.size w X1 := BX0.trans (hb1.mono BX0.size)
          have hs1 : w.heap.size + 2 ≤ X1.heap.size := Nat.le_trans hs0 hb1.size
          have KA1 := Lib.hid ((hb1.block _ (by omega)).trans KA0.out)
          have KB1 := Lib.hid ((hb1.block _ (by omega)).trans KB0.out)
          clear hb1
          clear d00 d01 d02 d03 d04 d05 f00 f01 f02 f03 f04 f05
          have d10 : X1.cell? ⟨w.heap.size, 0, none⟩ = some (.int .i64 h.k) := cell_of_block KA1.out rfl
          have d11 : X1.cell? ⟨w.heap.size, 1, none⟩ = some (.string ⟨h.l.toArray⟩) := cell_of_block KA1.out rfl
          have d12 : X1.cell? ⟨w.heap.size, 2, none⟩ = some (.slice aa h.ats.length ca) := cell_of_block KA1.out rfl
          have d13 : X1.cell? ⟨w.heap.size, 3, none⟩ = some (.int .i64 h.n) := cell_of_block KA1.out rfl
          have d14 : X1.cell? ⟨w.heap.size, 4, none⟩ = some (.int .i64 h.d) := cell_of_block KA1.out rfl
          have d15 : X1.cell? ⟨w.heap.size, 5, none⟩ = some (.string ⟨h.x.toArray⟩) := cell_of_block KA1.out rfl
          have f10 : X1.cell? ⟨w.heap.size + 1, 0, none⟩ = some (.int .i64 i.k) := cell_of_block KB1.out rfl
          have f11 : X1.cell? ⟨w.heap.size + 1, 1, none⟩ = some (.string ⟨i.l.toArray⟩) := cell_of_block KB1.out rfl
          have f12 : X1.cell? ⟨w.heap.size + 1, 2, none⟩ = some (.slice ab i.ats.length cb) := cell_of_block KB1.out rfl
          have f13 : X1.cell? ⟨w.heap.size + 1, 3, none⟩ = some (.int .i64 i.n) := cell_of_block KB1.out rfl
          have f14 : X1.cell? ⟨w.heap.size + 1, 4, none⟩ = some (.int .i64 i.d) := cell_of_block KB1.out rfl
          have f15 : X1.cell? ⟨w.heap.size + 1, 5, none⟩ = some (.string ⟨i.x.toArray⟩) := cell_of_block KB1.out rfl
          go_wp2_with fail
          refine (IG.out X1 BX1).mono ?_
          rintro e X2 ⟨rfl, hb2⟩
          have BX2 : Below w.heap.size w X2 := BX1.trans (hb2.mono BX1.size)
          have hs2 : w.heap.size + 2 ≤ X2.heap.size := Nat.le_trans hs1 hb2.size
          have KA2 := Lib.hid ((hb2.block _ (by omega)).trans KA1.out)
          have KB2 := Lib.hid ((hb2.block _ (by omega)).trans KB1.out)
          clear hb2
          clear d10 d11 d12 d13 d14 d15 f10 f11 f12 f13 f14 f15
          have d20 : X2.cell? ⟨w.heap.size, 0, none⟩ = some (.int .i64 h.k) := cell_of_block KA2.out rfl
          have d21 : X2.cell? ⟨w.heap.size, 1, none⟩ = some (.string ⟨h.l.toArray⟩) := cell_of_block KA2.out rfl
          have d22 : X2.cell? ⟨w.heap.size, 2, none⟩ = some (.slice aa h.ats.length ca) := cell_of_block KA2.out rfl
          have d23 : X2.cell? ⟨w.heap.size, 3, none⟩ = some (.int .i64 h.n) := cell_of_block KA2.out rfl
          have d24 : X2.cell? ⟨w.heap.size, 4, none⟩ = some (.int .i64 h.d) := cell_of_block KA2.out rfl
          have d25 : X2.cell? ⟨w.heap.size, 5, none⟩ = some (.string ⟨h.x.toArray⟩) := cell_of_block KA2.out rfl
          have f20 : X2.cell? ⟨w.heap.size + 1, 0, none⟩ = some (.int .i64 i.k) := cell_of_block KB2.out rfl
          have f21 : X2.cell? ⟨w.heap.size + 1, 1, none⟩ = some (.string ⟨i.l.toArray⟩) := cell_of_block KB2.out rfl
          have f22 : X2.cell? ⟨w.heap.size + 1, 2, none⟩ = some (.slice ab i.ats.length cb) := cell_of_block KB2.out rfl
          have f23 : X2.cell? ⟨w.heap.size + 1, 3, none⟩ = some (.int .i64 i.n) := cell_of_block KB2.out rfl
          have f24 : X2.cell? ⟨w.heap.size + 1, 4, none⟩ = some (.int .i64 i.d) := cell_of_block KB2.out rfl
          have f25 : X2.cell? ⟨w.heap.size + 1, 5, none⟩ = some (.string ⟨i.x.toArray⟩) := cell_of_block KB2.out rfl
          go_wp2_with fail
          refine (FG.out X2 BX2).mono ?_
          rintro e X3 ⟨rfl, hb3⟩
          have BX3 : Below w.heap.size w X3 := BX2.trans (hb3.mono BX2.size)
          have hs3 : w.heap.size + 2 ≤ X3.heap.size := Nat.le_trans hs2 hb3.size
          have KA3 := Lib.hid ((hb3.block _ (by omega)).trans KA2.out)
          have KB3 := Lib.hid ((hb3.block _ (by omega)).trans KB2.out)
          clear hb3
          clear d20 d21 d22 d23 d24 d25 f20 f21 f22 f23 f24 f25
          have d30 : X3.cell? ⟨w.heap.size, 0, none⟩ = some (.int .i64 h.k) := cell_of_block KA3.out rfl
          have d31 : X3.cell? ⟨w.heap.size, 1, none⟩ = some (.string ⟨h.l.toArray⟩) := cell_of_block KA3.out rfl
          have d32 : X3.cell? ⟨w.heap.size, 2, none⟩ = some (.slice aa h.ats.length ca) := cell_of_block KA3.out rfl
          have d33 : X3.cell? ⟨w.heap.size, 3, none⟩ = some (.int .i64 h.n) := cell_of_block KA3.out rfl
          have d34 : X3.cell? ⟨w.heap.size, 4, none⟩ = some (.int .i64 h.d) := cell_of_block KA3.out rfl
          have d35 : X3.cell? ⟨w.heap.size, 5, none⟩ = some (.string ⟨h.x.toArray⟩) := cell_of_block KA3.out rfl
          have f30 : X3.cell? ⟨w.heap.size + 1, 0, none⟩ = some (.int .i64 i.k) := cell_of_block KB3.out rfl
          have f31 : X3.cell? ⟨w.heap.size + 1, 1, none⟩ = some (.string ⟨i.l.toArray⟩) := cell_of_block KB3.out rfl
          have f32 : X3.cell? ⟨w.heap.size + 1, 2, none⟩ = some (.slice ab i.ats.length cb) := cell_of_block KB3.out rfl
          have f33 : X3.cell? ⟨w.heap.size + 1, 3, none⟩ = some (.int .i64 i.n) := cell_of_block KB3.out rfl
          have f34 : X3.cell? ⟨w.heap.size + 1, 4, none⟩ = some (.int .i64 i.d) := cell_of_block KB3.out rfl
          have f35 : X3.cell? ⟨w.heap.size + 1, 5, none⟩ = some (.string ⟨i.x.toArray⟩) := cell_of_block KB3.out rfl
          go_wp2_with fail
          refine (GG.out X3 BX3).mono ?_
          rintro e X4 ⟨rfl, hb4⟩
          have BX4 : Below w.heap.size w X4 := BX3.trans (hb4.mono BX3.size)
          have hs4 : w.heap.size + 2 ≤ X4.heap.size := Nat.le_trans hs3 hb4.size
          have KA4 := Lib.hid ((hb4.block _ (by omega)).trans KA3.out)
          have KB4 := Lib.hid ((hb4.block _ (by omega)).trans KB3.out)
          clear hb4
          clear d30 d31 d32 d33 d34 d35 f30 f31 f32 f33 f34 f35
          have d40 : X4.cell? ⟨w.heap.size, 0, none⟩ = some (.int .i64 h.k) := cell_of_block KA4.out rfl
          have d41 : X4.cell? ⟨w.heap.size, 1, none⟩ = some (.string ⟨h.l.toArray⟩) := cell_of_block KA4.out rfl
          have d42 : X4.cell? ⟨w.heap.size, 2, none⟩ = some (.slice aa h.ats.length ca) := cell_of_block KA4.out rfl
          have d43 : X4.cell? ⟨w.heap.size, 3, none⟩ = some (.int .i64 h.n) := cell_of_block KA4.out rfl
          have d44 : X4.cell? ⟨w.heap.size, 4, none⟩ = some (.int .i64 h.d) := cell_of_block KA4.out rfl
          have d45 : X4.cell? ⟨w.heap.size, 5, none⟩ = some (.string ⟨h.x.toArray⟩) := cell_of_block KA4.out rfl
          have f40 : X4.cell? ⟨w.heap.size + 1, 0, none⟩ = some (.int .i64 i.k) := cell_of_block KB4.out rfl
          have f41 : X4.cell? ⟨w.heap.size + 1, 1, none⟩ = some (.string ⟨i.l.toArray⟩) := cell_of_block KB4.out rfl
          have f42 : X4.cell? ⟨w.heap.size + 1, 2, none⟩ = some (.slice ab i.ats.length cb) := cell_of_block KB4.out rfl
          have f43 : X4.cell? ⟨w.heap.size + 1, 3, none⟩ = some (.int .i64 i.n) := cell_of_block KB4.out rfl
          have f44 : X4.cell? ⟨w.heap.size + 1, 4, none⟩ = some (.int .i64 i.d) := cell_of_block KB4.out rfl
          have f45 : X4.cell? ⟨w.heap.size + 1, 5, none⟩ = some (.string ⟨i.x.toArray⟩) := cell_of_block KB4.out rfl
          go_wp2_with fail
          refine (TH.out X4 BX4).mono ?_
          rintro e X5 ⟨rfl, hb5⟩
          have BX5 : Below w.heap.size w X5 := BX4.trans (hb5.mono BX4.size)
          have hs5 : w.heap.size + 2 ≤ X5.heap.size := Nat.le_trans hs4 hb5.size
          have KA5 := Lib.hid ((hb5.block _ (by omega)).trans KA4.out)
          have KB5 := Lib.hid ((hb5.block _ (by omega)).trans KB4.out)
          clear hb5
          clear d40 d41 d42 d43 d44 d45 f40 f41 f42 f43 f44 f45
          have d50 : X5.cell? ⟨w.heap.size, 0, none⟩ = some (.int .i64 h.k) := cell_of_block KA5.out rfl
          have d51 : X5.cell? ⟨w.heap.size, 1, none⟩ = some (.string ⟨h.l.toArray⟩) := cell_of_block KA5.out rfl
          have d52 : X5.cell? ⟨w.heap.size, 2, none⟩ = some (.slice aa h.ats.length ca) := cell_of_block KA5.out rfl
          have d53 : X5.cell? ⟨w.heap.size, 3, none⟩ = some (.int .i64 h.n) := cell_of_block KA5.out rfl
          have d54 : X5.cell? ⟨w.heap.size, 4, none⟩ = some (.int .i64 h.d) := cell_of_block KA5.out rfl
          have d55 : X5.cell? ⟨w.heap.size, 5, none⟩ = some (.string ⟨h.x.toArray⟩) := cell_of_block KA5.out rfl
          have f50 : X5.cell? ⟨w.heap.size + 1, 0, none⟩ = some (.int .i64 i.k) := cell_of_block KB5.out rfl
          have f51 : X5.cell? ⟨w.heap.size + 1, 1, none⟩ = some (.string ⟨i.l.toArray⟩) := cell_of_block KB5.out rfl
          have f52 : X5.cell? ⟨w.heap.size + 1, 2, none⟩ = some (.slice ab i.ats.length cb) := cell_of_block KB5.out rfl
          have f53 : X5.cell? ⟨w.heap.size + 1, 3, none⟩ = some (.int .i64 i.n) := cell_of_block KB5.out rfl
          have f54 : X5.cell? ⟨w.heap.size + 1, 4, none⟩ = some (.int .i64 i.d) := cell_of_block KB5.out rfl
          have f55 : X5.cell? ⟨w.heap.size + 1, 5, none⟩ = some (.string ⟨i.x.toArray⟩) := cell_of_block KB5.out rfl
          go_wp2_with fail
          refine (QH.out X5 BX5).mono ?_
          rintro e X6 ⟨rfl, hb6⟩
          have BX6 : Below w.heap.size w X6 := BX5.trans (hb6.mono BX5.size)
          have hs6 : w.heap.size + 2 ≤ X6.heap.size := Nat.le_trans hs5 hb6.size
          have KA6 := Lib.hid ((hb6.block _ (by omega)).trans KA5.out)
          have KB6 := Lib.hid ((hb6.block _ (by omega)).trans KB5.out)
          clear hb6
          clear d50 d51 d52 d53 d54 d55 f50 f51 f52 f53 f54 f55
          have d60 : X6.cell? ⟨w.heap.size, 0, none⟩ = some (.int .i64 h.k) := cell_of_block KA6.out rfl
          have d61 : X6.cell? ⟨w.heap.size, 1, none⟩ = some (.string ⟨h.l.toArray⟩) := cell_of_block KA6.out rfl
          have d62 : X6.cell? ⟨w.heap.size, 2, none⟩ = some (.slice aa h.ats.length ca) := cell_of_block KA6.out rfl
          have d63 : X6.cell? ⟨w.heap.size, 3, none⟩ = some (.int .i64 h.n) := cell_of_block KA6.out rfl
          have d64 : X6.cell? ⟨w.heap.size, 4, none⟩ = some (.int .i64 h.d) := cell_of_block KA6.out rfl
          have d65 : X6.cell? ⟨w.heap.size, 5, none⟩ = some (.string ⟨h.x.toArray⟩) := cell_of_block KA6.out rfl
          have f60 : X6.cell? ⟨w.heap.size + 1, 0, none⟩ = some (.int .i64 i.k) := cell_of_block KB6.out rfl
          have f61 : X6.cell? ⟨w.heap.size + 1, 1, none⟩ = some (.string ⟨i.l.toArray⟩) := cell_of_block KB6.out rfl
          have f62 : X6.cell? ⟨w.heap.size + 1, 2, none⟩ = some (.slice ab i.ats.length cb) := cell_of_block KB6.out rfl
          have f63 : X6.cell? ⟨w.heap.size + 1, 3, none⟩ = some (.int .i64 i.n) := cell_of_block KB6.out rfl
          have f64 : X6.cell? ⟨w.heap.size + 1, 4, none⟩ = some (.int .i64 i.d) := cell_of_block KB6.out rfl
          have f65 : X6.cell? ⟨w.heap.size + 1, 5, none⟩ = some (.string ⟨i.x.toArray⟩) := cell_of_block KB6.out rfl
          go_wp2_with fail
          refine (TF.out X6 BX6).mono ?_
          rintro e X7 ⟨rfl, hb7⟩
          have BX7 : Below w.heap.size w X7 := BX6.trans (hb7.mono BX6.size)
          have hs7 : w.heap.size + 2 ≤ X7.heap.size := Nat.le_trans hs6 hb7.size
          have KA7 := Lib.hid ((hb7.block _ (by omega)).trans KA6.out)
          have KB7 := Lib.hid ((hb7.block _ (by omega)).trans KB6.out)
          clear hb7
          clear d60 d61 d62 d63 d64 d65 f60 f61 f62 f63 f64 f65
          have d70 : X7.cell? ⟨w.heap.size, 0, none⟩ = some (.int .i64 h.k) := cell_of_block KA7.out rfl
          have d71 : X7.cell? ⟨w.heap.size, 1, none⟩ = some (.string ⟨h.l.toArray⟩) := cell_of_block KA7.out rfl
          have d72 : X7.cell? ⟨w.heap.size, 2, none⟩ = some (.slice aa h.ats.length ca) := cell_of_block KA7.out rfl
          have d73 : X7.cell? ⟨w.heap.size, 3, none⟩ = some (.int .i64 h.n) := cell_of_block KA7.out rfl
          have d74 : X7.cell? ⟨w.heap.size, 4, none⟩ = some (.int .i64 h.d) := cell_of_block KA7.out rfl
          have d75 : X7.cell? ⟨w.heap.size, 5, none⟩ = some (.string ⟨h.x.toArray⟩) := cell_of_block KA7.out rfl
          have f70 : X7.cell? ⟨w.heap.size + 1, 0, none⟩ = some (.int .i64 i.k) := cell_of_block KB7.out rfl
          have f71 : X7.cell? ⟨w.heap.size + 1, 1, none⟩ = some (.string ⟨i.l.toArray⟩) := cell_of_block KB7.out rfl
          have f72 : X7.cell? ⟨w.heap.size + 1, 2, none⟩ = some (.slice ab i.ats.length cb) := cell_of_block KB7.out rfl
          have f73 : X7.cell? ⟨w.heap.size + 1, 3, none⟩ = some (.int .i64 i.n) := cell_of_block KB7.out rfl
          have f74 : X7.cell? ⟨w.heap.size + 1, 4, none⟩ = some (.int .i64 i.d) := cell_of_block KB7.out rfl
          have f75 : X7.cell? ⟨w.heap.size + 1, 5, none⟩ = some (.string ⟨i.x.toArray⟩) := cell_of_block KB7.out rfl
          go_wp2_with fail
          refine (QF.out X7 BX7).mono ?_
          rintro e X8 ⟨rfl, hb8⟩
          have BX8 : Below w.heap.size w X8 := BX7.trans (hb8.mono BX7.size)
          have hs8 : w.heap.size + 2 ≤ X8.heap.size := Nat.le_trans hs7 hb8.size
          have KA8 := Lib.hid ((hb8.block _ (by omega)).trans KA7.out)
          have KB8 := Lib.hid ((hb8.block _ (by omega)).trans KB7.out)
          clear hb8
          clear d70 d71 d72 d73 d74 d75 f70 f71 f72 f73 f74 f75
          have d80 : X8.cell? ⟨w.heap.size, 0, none⟩ = some (.int .i64 h.k) := cell_of_block KA8.out rfl
          have d81 : X8.cell? ⟨w.heap.size, 1, none⟩ = some (.string ⟨h.l.toArray⟩) := cell_of_block KA8.out rfl
          have d82 : X8.cell? ⟨w.heap.size, 2, none⟩ = some (.slice aa h.ats.length ca) := cell_of_block KA8.out rfl
          have d83 : X8.cell? ⟨w.heap.size, 3, none⟩ = some (.int .i64 h.n) := cell_of_block KA8.out rfl
          have d84 : X8.cell? ⟨w.heap.size, 4, none⟩ = some (.int .i64 h.d) := cell_of_block KA8.out rfl
          have d85 : X8.cell? ⟨w.heap.size, 5, none⟩ = some (.string ⟨h.x.toArray⟩) := cell_of_block KA8.out rfl
          have f80 : X8.cell? ⟨w.heap.size + 1, 0, none⟩ = some (.int .i64 i.k) := cell_of_block KB8.out rfl
          have f81 : X8.cell? ⟨w.heap.size + 1, 1, none⟩ = some (.string ⟨i.l.toArray⟩) := cell_of_block KB8.out rfl
          have f82 : X8.cell? ⟨w.heap.size + 1, 2, none⟩ = some (.slice ab i.ats.length cb) := cell_of_block KB8.out rfl
          have f83 : X8.cell? ⟨w.heap.size + 1, 3, none⟩ = some (.int .i64 i.n) := cell_of_block KB8.out rfl
          have f84 : X8.cell? ⟨w.heap.size + 1, 4, none⟩ = some (.int .i64 i.d) := cell_of_block KB8.out rfl
          have f85 : X8.cell? ⟨w.heap.size + 1, 5, none⟩ = some (.string ⟨i.x.toArray⟩) := cell_of_block KB8.out rfl
          go_wp2_with fail
          refine (GR.out _).mono ?_
          rintro e X9 ⟨rfl, hb9⟩
          have BX9 : Below w.heap.size w X9 := BX8.trans (hb9.mono BX8.size)
          have hs9 : w.heap.size + 2 ≤ X9.heap.size := Nat.le_trans hs8 hb9.size
          have KA9 := Lib.hid ((hb9.block _ (by omega)).trans KA8.out)
          have KB9 := Lib.hid ((hb9.block _ (by omega)).trans KB8.out)
          clear hb9
          clear d80 d81 d82 d83 d84 d85 f80 f81 f82 f83 f84 f85
          go_wp2_with fail
          go_ret
          exact ⟨rfl, BX9⟩
end Go.Proofs.YtcgedpfolloinaaGreat

namespace Go.Proofs.YtcgedpfolloinaaGreat
open Go.ChangeShapes Go.WideShapes Go.ChangeAt Go.RowKit Go.Deep

theorem mem_all {H : Type} {P : Program} {e : TypeId} : ∀ {ds : List (DataW H)} {d : DataW H}, d ∈ ds → ∀ n ∈ d.weights P e, n ∈ DataW.weightsAll P e ds
  | d' :: r, d, hd, n, hn => by
    simp only [DataW.weightsAll, List.mem_append]
    rcases List.mem_cons.1 hd with rfl | hd
    · exact .inl hn
    · exact .inr (mem_all hd n hn)
theorem bytesAttr : Tryz.prog.bytesOf 81 = 32 := by kernel_rfl
theorem bytesTree : Tryz.prog.bytesOf 43 = 104 := by kernel_rfl
theorem cellsAttr : Tryz.prog.cellsOf 81 = 2 := by kernel_rfl
theorem cellsHead : Tryz.prog.cellsOf 27 = 6 := by kernel_rfl
theorem cellsTree : Tryz.prog.cellsOf 43 = 7 := by kernel_rfl
theorem cellsNumT : Tryz.prog.cellsOf 25 = 2 := by kernel_rfl
theorem cellsKind : Tryz.prog.cellsOf 22 = 1 := by kernel_rfl
theorem cellsStr : Tryz.prog.cellsOf 9 = 1 := by kernel_rfl
theorem cellsAttrs : Tryz.prog.cellsOf 23 = 1 := by kernel_rfl
theorem cellsTrees : Tryz.prog.cellsOf 28 = 1 := by kernel_rfl
theorem cellsInt : Tryz.prog.cellsOf 3 = 1 := by kernel_rfl
/-- no string, no slice of a datum is larger than memory. -/
def Fits {H : Type} (t : TypeId) (d : DataW H) : Prop := ∀ n ∈ d.weights Tryz.prog t, n ≤ reachBytes
theorem str_list (s : ByteArray) : ∃ l : List UInt8, s = ⟨l.toArray⟩ := ⟨s.data.toList, by cases s; simp⟩
theorem lt_of_cell' {w : World} {b o : Nat} {v : Value} (h : w.cell? ⟨b, o, none⟩ = some v) : b < w.heap.size := by
  by_cases hb : b < w.heap.size
  · exact hb
  · exfalso
    have : w.heap[b]? = none := Array.getElem?_eq_none (by omega)
    unfold World.cell? at h
    simp [this] at h

theorem tfields : ∃ a b, Tryz.prog.underlying 43 = some (.struct #[a, b]) ∧ a.type = 27 ∧ a.offset = 0 ∧ b.type = 28 ∧ b.offset = 6 := ⟨_, _, Tryz.underlying43, rfl, rfl, rfl, rfl⟩
theorem hfields : ∃ a b c d e, Tryz.prog.underlying 27 = some (.struct #[a, b, c, d, e]) ∧ (a.type = 22 ∧ a.offset = 0) ∧ (b.type = 9 ∧ b.offset = 1) ∧ (c.type = 23 ∧ c.offset = 2) ∧ (d.type = 25 ∧ d.offset = 3) ∧ (e.type = 9 ∧ e.offset = 5) :=
  ⟨_, _, _, _, _, Tryz.underlying27, ⟨rfl, rfl⟩, ⟨rfl, rfl⟩, ⟨rfl, rfl⟩, ⟨rfl, rfl⟩, ⟨rfl, rfl⟩⟩
theorem nfields : ∃ a b, Tryz.prog.underlying 25 = some (.struct #[a, b]) ∧ a.type = 3 ∧ a.offset = 0 ∧ b.type = 3 ∧ b.offset = 1 := ⟨_, _, Tryz.underlying25, rfl, rfl, rfl, rfl⟩
theorem afields : ∃ a b, Tryz.prog.underlying 81 = some (.struct #[a, b]) ∧ a.type = 9 ∧ a.offset = 0 ∧ b.type = 9 ∧ b.offset = 1 := ⟨_, _, Tryz.underlying81, rfl, rfl, rfl, rfl⟩

section
variable {H : Type} {enc : TypeId × Value → H} {W : World} {held : Bool}

set_option maxRecDepth 100000 in
theorem attrs_open {fuel : Nat} {v : Value} {x : DataW H × List MemPlace} (h : DataW.trod enc Tryz.prog W 0 (fun _ => true) held fuel 23 [v] = some x) (hf : Fits 23 x.1) : ∃ ats, AttrsLie W v ats := by
  obtain ⟨fa, fb, hu, ta, oa, tb, ob⟩ := afields
  rcases open_slice_pairs Tryz.underlying23 hu cellsAttr oa ob (by rw [ta]; exact cellsStr) (by rw [tb]; exact cellsStr) h with ⟨hcs, hx⟩ | ⟨a, len, cap, m, n, V0, V1, D0, D1, P0, P1, hcs, _, hle, hmax, hm, hx, hi⟩
  · simp at hcs
    subst hcs
    exact ⟨[], .inl ⟨_, _, rfl, rfl⟩⟩
  · simp at hcs
    subst hcs
    simp only [if_true] at hm
    by_cases h0 : len = 0
    · subst h0; exact ⟨[], .inl ⟨_, _, rfl, rfl⟩⟩
    · have hw : (len + (m - len)) * 32 ≤ reachBytes := by
        have := hf ((len + (m - len)) * Tryz.prog.bytesOf 81) (by
          subst hx
          simp only [DataW.weights, Tryz.underlying23]
          simp)
        rwa [bytesAttr] at this
      have hi' : ∀ i, i < len → ∃ x y : List UInt8, W.cell? (a.add (i * 2)) = some (.string ⟨x.toArray⟩) ∧ W.cell? (a.add (i * 2 + 1)) = some (.string ⟨y.toArray⟩) := by
        intro i hl
        obtain ⟨h1, h2, h3, h4⟩ := hi i (by omega)
        rw [ta] at h3
        rw [tb] at h4
        obtain ⟨x, e1, _, _⟩ := DataW.trod_string Tryz.underlying9 h3
        obtain ⟨y, e2, _, _⟩ := DataW.trod_string Tryz.underlying9 h4
        simp only [List.cons.injEq, and_true] at e1 e2
        obtain ⟨x, rfl⟩ := str_list x
        obtain ⟨y, rfl⟩ := str_list y
        exact ⟨x, y, by rw [h1, e1], by rw [h2, e2]⟩
      obtain ⟨b, off, spot⟩ := a
      obtain ⟨x0, y0, c0, _⟩ := hi' 0 (by omega)
      have hspot : spot = none := by simpa [Addr.add] using World.cell?_spot c0
      subst hspot
      have hb : b < W.heap.size := by
        rw [Go.WideShapes.add_plain] at c0
        exact lt_of_cell' c0
      have e : ∀ i, i < len → ∃ q : List UInt8 × List UInt8, W.cell? ⟨b, off + i * 2, none⟩ = some (.string ⟨q.1.toArray⟩) ∧ W.cell? ⟨b, off + i * 2 + 1, none⟩ = some (.string ⟨q.2.toArray⟩) := by
        intro i hl
        obtain ⟨x, y, h1, h2⟩ := hi' i hl
        rw [Go.WideShapes.add_plain] at h1 h2
        exact ⟨(x, y), h1, by rw [Nat.add_assoc]; exact h2⟩
      obtain ⟨q, hq⟩ := choose_lt e
      have hl : ((List.range len).map q).length = len := by simp
      refine ⟨(List.range len).map q, .inr ⟨b, off, cap, by rw [hl], by rw [hl]; exact hle, by rw [hl]; unfold reachBytes at hw; omega, hb, fun k hk => ?_⟩⟩
      have hk' : k < len := by rwa [hl] at hk
      have g : ((List.range len).map q).getD k ([], []) = q k := by
        rw [List.getD_eq_getElem?_getD]; simp [hk']
      rw [g]
      exact hq k hk'

set_option maxRecDepth 100000 in
theorem head_open {fuel : Nat} {cs : List Value} {x : DataW H × List MemPlace} (h : DataW.trod enc Tryz.prog W 0 (fun _ => true) held fuel 27 cs = some x) (hf : Fits 27 x.1) :
    ∃ (hd : Hd) (va : Value), cs = [.int .i64 hd.k, .string ⟨hd.l.toArray⟩, va, .int .i64 hd.n, .int .i64 hd.d, .string ⟨hd.x.toArray⟩] ∧ AttrsLie W va hd.ats := by
  obtain ⟨fa, fb, fc, fd, fe, hu, ⟨ta, oa⟩, ⟨tb, ob⟩, ⟨tc, oc⟩, ⟨td, od⟩, te, oe⟩ := hfields
  obtain ⟨xs, n, _, hx, hlen, hxl, hi⟩ := DataW.trod_struct hu h
  rw [cellsHead] at hlen
  obtain ⟨c0, c1, c2, c3, c4, c5, rfl⟩ : ∃ c0 c1 c2 c3 c4 c5, cs = [c0, c1, c2, c3, c4, c5] := by
    match cs, hlen with
    | [c0, c1, c2, c3, c4, c5], _ => exact ⟨c0, c1, c2, c3, c4, c5, rfl⟩
  obtain ⟨x0, x1, x2, x3, x4, rfl⟩ : ∃ x0 x1 x2 x3 x4, xs = [x0, x1, x2, x3, x4] := by
    match xs, hxl with
    | [x0, x1, x2, x3, x4], _ => exact ⟨x0, x1, x2, x3, x4, rfl⟩
  have i0 := hi 0 fa rfl
  have i1 := hi 1 fb rfl
  have i2 := hi 2 fc rfl
  have i3 := hi 3 fd rfl
  have i4 := hi 4 fe rfl
  rw [ta, oa, cellsKind] at i0
  rw [tb, ob, cellsStr] at i1
  rw [tc, oc, cellsAttrs] at i2
  rw [td, od, cellsNumT] at i3
  rw [te, oe, cellsStr] at i4
  simp at i0 i1 i2 i3 i4
  obtain ⟨k, e0, _, _⟩ := DataW.trod_int Tryz.underlying22 i0
  obtain ⟨l, e1, _, _⟩ := DataW.trod_string Tryz.underlying9 i1
  obtain ⟨t, e4, _, _⟩ := DataW.trod_string Tryz.underlying9 i4
  obtain ⟨ats, ha⟩ := attrs_open i2 (fun m hm => hf m (by
    subst hx
    simp only [DataW.weights, hu]
    refine DataW.weights_mem_each (j := 2) (t := 23) (d := x2.1) (by simp [tc]) (by simp) m hm))
  obtain ⟨na, nb, hun, tna, ona, tnb, onb⟩ := nfields
  obtain ⟨ys, n2, _, _, _, hyl, hj⟩ := DataW.trod_struct hun i3
  obtain ⟨y0, y1, rfl⟩ : ∃ y0 y1, ys = [y0, y1] := by
    match ys, hyl with
    | [y0, y1], _ => exact ⟨y0, y1, rfl⟩
  have j0 := hj 0 na rfl
  have j1 := hj 1 nb rfl
  rw [tna, ona, cellsInt] at j0
  rw [tnb, onb, cellsInt] at j1
  simp at j0 j1
  obtain ⟨n', g0, _, _⟩ := DataW.trod_int Tryz.underlying3 j0
  obtain ⟨d', g1, _, _⟩ := DataW.trod_int Tryz.underlying3 j1
  simp only [List.cons.injEq, and_true] at e0 e1 e4 g0 g1
  obtain ⟨l, rfl⟩ := str_list l
  obtain ⟨t, rfl⟩ := str_list t
  exact ⟨⟨k, l, ats, n', d', t⟩, c2, by rw [e0, e1, e4, g0, g1], ha⟩

def foOf : List (Hd × Fo) → Fo
  | [] => .nil
  | x :: r => .cons x.1 x.2 (foOf r)
theorem foOf_len : ∀ l : List (Hd × Fo), (foOf l).len = l.length
  | [] => rfl
  | x :: r => by simp only [foOf, Fo.len, List.length_cons, foOf_len r]
theorem foOf_row {b : Nat} : ∀ (l : List (Hd × Fo)) (o : Nat), (∀ k (hk : k < l.length), HdAt W (l[k]).1 b (o + k * 7) ∧ ∃ v, W.cell? ⟨b, o + k * 7 + 6, none⟩ = some v ∧ Lies W v (l[k]).2) → RowAt W (foOf l) b o
  | [], _, _ => trivial
  | x :: r, o, hk => by
    have h0 := hk 0 (by simp)
    simp only [Nat.zero_mul, Nat.add_zero, List.getElem_cons_zero] at h0
    refine rowAt_cons.2 ⟨h0.1, h0.2, foOf_row r (o + 7) fun k h => ?_⟩
    have := hk (k + 1) (by simpa using h)
    simp only [List.getElem_cons_succ] at this
    rw [show o + (k + 1) * 7 = o + 7 + k * 7 by omega] at this
    exact this
instance : Inhabited (Hd × Fo) := ⟨(⟨0, [], [], 0, 0, []⟩, .nil)⟩

set_option maxRecDepth 100000 in
theorem trees_open : ∀ (fuel : Nat) {v : Value} {x : DataW H × List MemPlace}, DataW.trod enc Tryz.prog W 0 (fun _ => true) held fuel 28 [v] = some x → Fits 28 x.1 → ∃ f, Lies W v f
  | 0, v, x, h, _ => by simp [DataW.trod] at h
  | 1, v, x, h, hf => by
    rcases DataW.trod_slice Tryz.underlying28 h with ⟨hcs, _⟩ | ⟨a, len, cap, elems, rest, n, hn, hcs, hx, _, hle, hmax, hlen, hel, hsp, _⟩
    · simp at hcs; subst hcs; exact ⟨.nil, .inl ⟨_, _, rfl, rfl⟩⟩
    · simp at hcs
      subst hcs
      obtain rfl : n = 0 := by omega
      cases len with
      | zero => exact ⟨.nil, .inl ⟨_, _, rfl, rfl⟩⟩
      | succ len =>
        have h0 := hel 0 (by omega)
        rw [List.getElem?_eq_getElem (by omega)] at h0
        obtain ⟨cs', _, h2⟩ := Option.bind_eq_some_iff.1 h0
        simp [DataW.trod] at h2
  | fuel + 2, v, x, h, hf => by
    rcases DataW.trod_slice Tryz.underlying28 h with ⟨hcs, _⟩ | ⟨a, len, cap, elems, rest, n, hn, hcs, hx, _, hle, hmax, hlen, hel, hsp, _⟩
    · simp at hcs; subst hcs; exact ⟨.nil, .inl ⟨_, _, rfl, rfl⟩⟩
    · simp at hcs
      subst hcs
      obtain rfl : n = fuel + 1 := by omega
      by_cases h0 : len = 0
      · subst h0; exact ⟨.nil, .inl ⟨_, _, rfl, rfl⟩⟩
      · have hw : (elems.length + rest.length) * 104 ≤ reachBytes := by
          have := hf ((elems.length + rest.length) * Tryz.prog.bytesOf 43) (by
            subst hx
            simp only [DataW.weights, Tryz.underlying28]
            simp)
          rwa [bytesTree] at this
        have hi' : ∀ i, i < len → ∃ q : Hd × Fo, (∃ va, W.cell? (a.add (i * 7)) = some (.int .i64 q.1.k) ∧ W.cell? (a.add (i * 7 + 1)) = some (.string ⟨q.1.l.toArray⟩) ∧ W.cell? (a.add (i * 7 + 2)) = some va ∧ AttrsLie W va q.1.ats ∧
            W.cell? (a.add (i * 7 + 3)) = some (.int .i64 q.1.n) ∧ W.cell? (a.add (i * 7 + 4)) = some (.int .i64 q.1.d) ∧ W.cell? (a.add (i * 7 + 5)) = some (.string ⟨q.1.x.toArray⟩)) ∧ ∃ vk, W.cell? (a.add (i * 7 + 6)) = some vk ∧ Lies W vk q.2 := by
          intro i hl
          have hi := hel i hl
          rw [cellsTree, List.getElem?_eq_getElem (by omega)] at hi
          obtain ⟨cs', hc, ht⟩ := Option.bind_eq_some_iff.1 hi
          obtain ⟨_, hcl, hcc⟩ := World.cells?_some hc
          obtain ⟨fa, fb, hu, ta, oa, tb, ob⟩ := tfields
          obtain ⟨xs, m, hm, hxx, _, hxl, hj⟩ := DataW.trod_struct hu ht
          obtain rfl : m = fuel := by omega
          obtain ⟨x0, x1, rfl⟩ : ∃ x0 x1, xs = [x0, x1] := by
            match xs, hxl with
            | [x0, x1], _ => exact ⟨x0, x1, rfl⟩
          obtain ⟨c0, c1, c2, c3, c4, c5, c6, rfl⟩ : ∃ c0 c1 c2 c3 c4 c5 c6, cs' = [c0, c1, c2, c3, c4, c5, c6] := by
            match cs', hcl with
            | [c0, c1, c2, c3, c4, c5, c6], _ => exact ⟨c0, c1, c2, c3, c4, c5, c6, rfl⟩
          have j0 := hj 0 fa rfl
          have j1 := hj 1 fb rfl
          rw [ta, oa, cellsHead] at j0
          rw [tb, ob, cellsTrees] at j1
          simp at j0 j1
          have hfit : Fits 43 (elems[i]).1 := fun n hn => hf n (by
            subst hx
            simp only [DataW.weights, Tryz.underlying28, List.mem_cons, List.mem_append]
            exact .inr (.inl (mem_all (by simp; exact ⟨_, List.getElem_mem _⟩) n hn)))
          rw [hxx] at hfit
          have hf0 : Fits 27 x0.1 := fun n hn => hfit n (by
            simp only [DataW.weights, hu]
            exact DataW.weights_mem_each (j := 0) (t := 27) (d := x0.1) (by simp [ta]) (by simp) n hn)
          have hf1 : Fits 28 x1.1 := fun n hn => hfit n (by
            simp only [DataW.weights, hu]
            exact DataW.weights_mem_each (j := 1) (t := 28) (d := x1.1) (by simp [tb]) (by simp) n hn)
          obtain ⟨hd, va, e, ha⟩ := head_open j0 hf0
          obtain ⟨ks, hk⟩ := trees_open m j1 hf1
          have g : ∀ k (hk : k < 7) u, [c0, c1, c2, c3, c4, c5, c6][k]? = some u → W.cell? (a.add (i * 7 + k)) = some u := fun k hk u hu => by
            rw [← Go.Deep.add_add]; exact (hcc k hk).trans hu
          simp only [List.cons.injEq, and_true] at e
          obtain ⟨rfl, rfl, rfl, rfl, rfl, rfl⟩ := e
          exact ⟨(hd, ks), ⟨c2, g 0 (by omega) _ rfl, g 1 (by omega) _ rfl, g 2 (by omega) _ rfl, ha, g 3 (by omega) _ rfl, g 4 (by omega) _ rfl, g 5 (by omega) _ rfl⟩, c6, g 6 (by omega) _ rfl, hk⟩
        obtain ⟨b, off, spot⟩ := a
        have hspot : spot = none := by
          obtain ⟨q, ⟨va, c0, _⟩, _⟩ := hi' 0 (by omega)
          simpa [Addr.add] using World.cell?_spot c0
        subst hspot
        obtain ⟨q, hq⟩ := choose_lt hi'
        have hb : b < W.heap.size := by
          obtain ⟨⟨va, c0, _⟩, _⟩ := hq 0 (by omega)
          rw [Go.WideShapes.add_plain] at c0
          exact lt_of_cell' c0
        have hl : (foOf ((List.range len).map q)).len = len := by rw [foOf_len]; simp
        refine ⟨foOf ((List.range len).map q), .inr ⟨b, off, cap, by rw [hl], by rw [hl]; exact hle, by rw [hl]; unfold reachBytes at hw; omega, hb, foOf_row _ off fun k hk => ?_⟩⟩
        have hk' : k < len := by simpa using hk
        obtain ⟨⟨va, c0, c1, c2, ha, c3, c4, c5⟩, vk, c6, hk6⟩ := hq k hk'
        rw [Go.WideShapes.add_plain] at c0 c1 c2 c3 c4 c5 c6
        simp only [List.getElem_map, List.getElem_range]
        exact ⟨⟨c0, by rw [Nat.add_assoc]; exact c1, ⟨va, by rw [Nat.add_assoc]; exact c2, ha⟩, by rw [Nat.add_assoc]; exact c3, by rw [Nat.add_assoc]; exact c4, by rw [Nat.add_assoc]; exact c5⟩, vk, by rw [Nat.add_assoc]; exact c6, hk6⟩
end
end Go.Proofs.YtcgedpfolloinaaGreat
