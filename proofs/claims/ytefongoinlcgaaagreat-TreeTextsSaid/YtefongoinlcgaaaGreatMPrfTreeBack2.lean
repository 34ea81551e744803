/- What the proof of PrfTreeBack rests on, part 2 of 2. -/
import Derived.Test.YtefongoinlcgaaaGreatMPrfTreeBack1
/- the walk of the law TreeBack. -/
namespace Go.Proofs.YtefongoinlcgaaaGreat
open Go.RowKit

theorem digI_in (l : List UInt8) : inB (digI l) 0 999982 = true := by
  have : 0 ≤ digI l ∧ digI l ≤ 999982 := by
    unfold digI
    rcases List.eq_nil_or_concat l with rfl | ⟨t, c, rfl⟩
    · decide
    · rw [List.concat_eq_append, List.foldl_append]
      simp only [List.foldl_cons, List.foldl_nil]
      omega
  unfold inB
  simp; omega
def fitB (f : Fo) : Bool := !great f && decide (foErr f = 0)
set_option maxRecDepth 100000 in
set_option maxHeartbeats 1000000 in
theorem fit_any (f : Fo) (v : Value) (w : World) (hl : Lies w v f) : Calls Tryz.prog 60 #[v] w fun e w' => e = .returned (.bool (fitB f)) ∧ Below w.heap.size w w' := by
  have GF := Lib.hid (great_any f.size f v w (Nat.le_refl _) hl)
  cases hg : great f with
  | true =>
    rw [hg] at GF
    have HX := Lib.hid (show fitB f = false by unfold fitB; rw [hg]; rfl)
    rw [HX.out]
    clear hl
    go_enter Tryz.func60, Tryz.ntmps60
    go_wp2_with fail
    refine GF.out.mono ?_
    rintro e w1 ⟨rfl, hb1⟩
    go_wp2_with fail
    go_ret
    exact ⟨rfl, hb1⟩
  | false =>
    rw [hg] at GF
    have QF := Lib.hid (fun w1 (hw : Below w.heap.size w w1) => qcheck_any f v w1 (lies_below hl hw) (small_lies hl hg))
    by_cases h0 : foErr f = 0
    · have HX := Lib.hid (show fitB f = true by unfold fitB; rw [hg, h0]; rfl)
      rw [HX.out]
      rw [h0] at QF
      clear hl h0
      go_enter Tryz.func60, Tryz.ntmps60
      go_wp2_with fail
      refine GF.out.mono ?_
      rintro e w1 ⟨rfl, hb1⟩
      go_wp2_with fail
      refine (QF.out _ hb1).mono ?_
      rintro e w2 ⟨rfl, hb2⟩
      go_wp2_with fail
      go_ret
      exact ⟨rfl, hb1.trans (hb2.mono hb1.size)⟩
    · have HX := Lib.hid (show fitB f = false by unfold fitB; rw [hg]; simp [h0])
      rw [HX.out]
      generalize foErr f = E at *
      have b0 : (E == 0) = false := by simpa using h0
      clear hl h0
      go_enter Tryz.func60, Tryz.ntmps60
      go_wp2_with fail
      refine GF.out.mono ?_
      rintro e w1 ⟨rfl, hb1⟩
      go_wp2_with fail
      refine (QF.out _ hb1).mono ?_
      rintro e w2 ⟨rfl, hb2⟩
      go_wp2_with fail
      go_ret
      exact ⟨rfl, hb1.trans (hb2.mono hb1.size)⟩
theorem fit_parts {f : Fo} (h : fitB f = true) : great f = false ∧ foErr f = 0 := by
  unfold fitB at h
  simpa using h
theorem parsed_ok {l : List UInt8} (h : (parsed l).2 = 0) : readP l = some (parsed l).1 ∧ foErr (parsed l).1 = 0 := by
  unfold parsed at h ⊢
  by_cases h1 : 20000 < l.length
  · rw [if_pos h1] at h; cases h
  · rw [if_neg h1] at h ⊢
    cases hr : readP l with
    | none => rw [hr] at h; cases h
    | some f =>
      rw [hr] at h
      simp only at h ⊢
      by_cases h0 : foErr f = 0
      · rw [if_pos h0]; exact ⟨rfl, h0⟩
      · rw [if_neg h0] at h; exact absurd h h0
theorem parsed_no {l : List UInt8} (h : (parsed l).2 ≠ 0) : (parsed l).1 = .nil := by
  unfold parsed at h ⊢
  by_cases h1 : 20000 < l.length
  · rw [if_pos h1]
  · rw [if_neg h1] at h ⊢
    cases hr : readP l with
    | none => rfl
    | some f =>
      rw [hr] at h
      simp only at h ⊢
      by_cases h0 : foErr f = 0
      · rw [if_pos h0] at h; exact absurd rfl h
      · rw [if_neg h0]
theorem printF_yes {f : Fo} (h : foErr f = 0) (hl : (foQ true f).length ≤ 20000) : printF f = (foQ true f, 0) := by
  unfold printF; rw [if_neg (by simpa using h), if_pos hl]
theorem printF_long {f : Fo} (h : foErr f = 0) (hl : ¬ (foQ true f).length ≤ 20000) : printF f = ([], 8) := by
  unfold printF; rw [if_neg (by simpa using h), if_neg hl]
theorem digF_yes {f : Fo} (h : foErr f = 0) : digF f = (digI (foQ true f), 0) := if_pos h

/-- all that the law calls, of two valid forests and a text. -/
structure Bk (f g : Fo) (a : Option Addr) (cap : Nat) (a' : Option Addr) (cap' : Nat) (l : List UInt8) (w : World) : Prop where
  hl : Lies w (.slice a f.len cap) f
  hg : Lies w (.slice a' g.len cap') g
  gr : ∀ w, Calls Tryz.prog 16 #[] w fun e w' => e = .returned (.bool true) ∧ Below w.heap.size w w'
  ff : ∀ w1, Below w.heap.size w w1 → Calls Tryz.prog 60 #[.slice a f.len cap] w1 fun e w' => e = .returned (.bool true) ∧ Below w1.heap.size w1 w'
  fg : ∀ w1, Below w.heap.size w w1 → Calls Tryz.prog 60 #[.slice a' g.len cap'] w1 fun e w' => e = .returned (.bool true) ∧ Below w1.heap.size w1 w'
  pf : ∀ w1, Below w.heap.size w w1 → Calls Tryz.prog 56 #[.slice a f.len cap] w1 fun e w' => e = .returned (.tuple #[.string ⟨(printF f).1.toArray⟩, .int .i64 (printF f).2]) ∧ Below w1.heap.size w1 w'
  pg : ∀ w1, Below w.heap.size w w1 → Calls Tryz.prog 56 #[.slice a' g.len cap'] w1 fun e w' => e = .returned (.tuple #[.string ⟨(printF g).1.toArray⟩, .int .i64 (printF g).2]) ∧ Below w1.heap.size w1 w'
  df : ∀ w1, Below w.heap.size w w1 → Calls Tryz.prog 25 #[.slice a f.len cap] w1 fun e w' => e = .returned (.tuple #[.int .i64 (digI (foQ true f)), .int .i64 0]) ∧ Below w1.heap.size w1 w'
  dg : ∀ w1, Below w.heap.size w w1 → Calls Tryz.prog 25 #[.slice a' g.len cap'] w1 fun e w' => e = .returned (.tuple #[.int .i64 (digI (foQ true g)), .int .i64 0]) ∧ Below w1.heap.size w1 w'
  sm : ∀ w1, Below w.heap.size w w1 → Calls Tryz.prog 35 #[.slice a f.len cap, .slice a' g.len cap'] w1 fun e w' => e = .returned (.bool (dec (f = g))) ∧ Below w1.heap.size w1 w'
  sf : ∀ v w1, Lies w1 v f → Below w.heap.size w w1 → Calls Tryz.prog 35 #[v, .slice a f.len cap] w1 fun e w' => e = .returned (.bool true) ∧ Below w1.heap.size w1 w'
  ps : ∀ w1, Calls Tryz.prog 58 #[.string ⟨l.toArray⟩] w1 fun e w' => ∃ v, e = .returned (.tuple #[v, .int .i64 (parsed l).2]) ∧ LiesF w1.heap.size w' v (parsed l).1 ∧ Below w1.heap.size w1 w'
  pt : (printF f).2 = 0 → ∀ w1, Calls Tryz.prog 58 #[.string ⟨(printF f).1.toArray⟩] w1 fun e w' => ∃ v, e = .returned (.tuple #[v, .int .i64 0]) ∧ LiesF w1.heap.size w' v f ∧ Below w1.heap.size w1 w'
  px : (parsed l).2 = 0 → ∀ v w1, Lies w1 v (parsed l).1 → Calls Tryz.prog 56 #[v] w1 fun e w' => e = .returned (.tuple #[.string ⟨l.toArray⟩, .int .i64 0]) ∧ Below w1.heap.size w1 w'
theorem bk_of (f g : Fo) (a : Option Addr) (cap : Nat) (a' : Option Addr) (cap' : Nat) (l : List UInt8) (w : World) (hl : Lies w (.slice a f.len cap) f) (hg : Lies w (.slice a' g.len cap') g) (h3 : l.length ≤ 3000) (h1 : fitB f = true) (h2 : fitB g = true) :
    Bk f g a cap a' cap' l w := by
  obtain ⟨g1, e1⟩ := fit_parts h1
  obtain ⟨g2, e2⟩ := fit_parts h2
  have s1 := small_lies hl g1
  have s2 := small_lies hg g2
  refine ⟨hl, hg, grown_any, fun w1 hw => ?_, fun w1 hw => ?_, fun w1 hw => print_tree f _ w1 (lies_below hl hw) s1, fun w1 hw => print_tree g _ w1 (lies_below hg hw) s2, fun w1 hw => ?_, fun w1 hw => ?_,
    fun w1 hw => same_any f.size f g (Nat.le_refl _) _ _ w1 (lies_below hl hw) (lies_below hg hw), fun v w1 hv hw => same_refl f.size f (Nat.le_refl _) v _ w1 hv (lies_below hl hw), fun w1 => tparse_any l w1 (by omega), fun hp w1 => ?_, fun hp v w1 hv => ?_⟩
  · have := fit_any f _ w1 (lies_below hl hw); rwa [h1] at this
  · have := fit_any g _ w1 (lies_below hg hw); rwa [h2] at this
  · have := tdigest_any f _ w1 (lies_below hl hw) s1; rwa [digF_yes e1] at this
  · have := tdigest_any g _ w1 (lies_below hg hw) s2; rwa [digF_yes e2] at this
  · have hlen : (foQ true f).length ≤ 20000 := by
      by_cases h : (foQ true f).length ≤ 20000
      · exact h
      · rw [printF_long e1 h] at hp; cases hp
    rw [printF_yes e1 hlen]
    have := tparse_any (foQ true f) w1 (by omega)
    rwa [parsed_text e1 hlen] at this
  · obtain ⟨hr, he⟩ := parsed_ok hp
    have ht := readP_text hr
    have := print_tree (parsed l).1 v w1 hv (readP_small (by omega) hr)
    rw [printF_yes he (by rw [ht]; omega), ht] at this
    exact this

set_option maxRecDepth 100000 in
set_option maxHeartbeats 16000000 in
theorem back_tt (f g : Fo) (a : Option Addr) (cap : Nat) (a' : Option Addr) (cap' : Nat) (l : List UInt8) (w : World) (h3 : l.length ≤ 3000) (h1 : fitB f = true) (h2 : fitB g = true) (k : Bk f g a cap a' cap' l w) (p1 : (foQ true f).length ≤ 20000) (p2 : (foQ true g).length ≤ 20000) :
    Calls Tryz.prog 13 #[.slice a f.len cap, .slice a' g.len cap', .string ⟨l.toArray⟩] w fun e w' => e = .returned (.bool true) ∧ Below w.heap.size w w' := by
  have e1 := (fit_parts h1).2
  have e2 := (fit_parts h2).2
  obtain ⟨B, hB⟩ : ∃ B, dec (f = g) = B := ⟨_, rfl⟩
  have HB := Lib.hid hB
  have HD := Lib.hid (show B = true → digI (foQ true f) = digI (foQ true g) from fun hb => by
    rw [← hB] at hb
    by_cases h : f = g
    · rw [h]
    · rw [dec_neg h] at hb; cases hb)
  have d3 : decide ((3000 : Int) < (l.length : Int)) = false := by simp; omega
  have HP := Lib.hid (printF_yes e1 p1)
  have HQ := Lib.hid (printF_yes e2 p2)
  have PT := Lib.hid (k.pt (by rw [HP.out]))
  rw [HP.out] at PT
  have hpq : (foQ true f == foQ true g) = B := by
    rw [← hB]
    by_cases h : f = g
    · rw [dec_pos h, h]; simp
    · rw [dec_neg h]; simpa using fun e => h (text_inj e1 e2 e)
  have K := Lib.hid k
  clear k hB h1 h2 h3 e1 e2
  go_enter Tryz.func13, Tryz.ntmps13
  go_wp2_with fail
  refine (K.out.ff _ (Below.refl _ _)).mono ?_
  rintro e w1 ⟨rfl, hb1⟩
  have B1 : Below w.heap.size w w1 := hb1
  go_wp2_with fail
  refine (K.out.fg _ B1).mono ?_
  rintro e w2 ⟨rfl, hb2⟩
  have B2 : Below w.heap.size w w2 := B1.trans (hb2.mono B1.size)
  go_wp2_with fail
  refine (K.out.pf _ B2).mono ?_
  rintro e w3 ⟨rfl, hb3⟩
  have B3 : Below w.heap.size w w3 := B2.trans (hb3.mono B2.size)
  go_wp2_with fail
  refine (K.out.pg _ B3).mono ?_
  rintro e w4 ⟨rfl, hb4⟩
  have B4 : Below w.heap.size w w4 := B3.trans (hb4.mono B3.size)
  clear hb1 hb2 hb3 hb4 B1 B2 B3
  rw [HP.out, HQ.out]
  go_wp2_with fail
  refine (PT.out _).mono ?_
  rintro e w5 ⟨v5, rfl, hv5, hb5⟩
  obtain ⟨a5, c5, rfl⟩ := liesF_form hv5
  have V5 := Lib.hid (liesF_lies hv5)
  have B5 : Below w.heap.size w w5 := B4.trans (hb5.mono B4.size)
  clear hb5 hv5
  go_wp2_with fail
  refine (K.out.sf _ _ V5.out B5).mono ?_
  rintro e w6 ⟨rfl, hb6⟩
  have B6 : Below w.heap.size w w6 := B5.trans (hb6.mono B5.size)
  clear hb6 B5
  go_wp2_with fail
  refine (K.out.sm _ B6).mono ?_
  rintro e w7 ⟨rfl, hb7⟩
  have B7 : Below w.heap.size w w7 := B6.trans (hb7.mono B6.size)
  clear hb7 B6
  rw [HB.out]
  go_wp2_with fail
  refine (K.out.df _ B7).mono ?_
  rintro e wd ⟨rfl, hbd⟩
  have Bd : Below w.heap.size w wd := B7.trans (hbd.mono B7.size)
  clear hbd
  go_wp2_with fail
  refine (K.out.dg _ Bd).mono ?_
  rintro e wc ⟨rfl, hbc⟩
  have Bc : Below w.heap.size w wc := Bd.trans (hbc.mono Bd.size)
  clear hbc Bd
  go_wp2_with fail
  refine (K.out.sm _ Bc).mono ?_
  rintro e ws ⟨rfl, hbs⟩
  have Bs : Below w.heap.size w ws := Bc.trans (hbs.mono Bc.size)
  clear hbs Bc
  rw [HB.out]
  cases B with
  | true =>
    have hdd := HD.out rfl
    rw [hdd]
    go_wp2_with fail
    refine (in_any _ _ _ _).mono ?_
    rintro e wi ⟨rfl, rfl⟩
    rw [digI_in]
    by_cases h5 : (parsed l).2 = 0
    · have PS := Lib.hid K.out.ps
      have PX := Lib.hid (K.out.px h5)
      rw [h5] at PS
      clear h5
      go_wp2_with fail
      refine (PS.out _).mono ?_
      rintro e wp ⟨v5, rfl, hv5, hbp⟩
      obtain ⟨a5, c5, rfl⟩ := liesF_form hv5
      have V5 := Lib.hid (liesF_lies hv5)
      have Bp : Below w.heap.size w wp := Bs.trans (hbp.mono Bs.size)
      clear hbp hv5
      go_wp2_with fail
      refine (PX.out _ _ V5.out).mono ?_
      rintro e wq ⟨rfl, hbq⟩
      have Bq : Below w.heap.size w wq := Bp.trans (hbq.mono Bp.size)
      clear hbq
      go_wp2_with fail
      refine (K.out.gr _).mono ?_
      rintro e wr ⟨rfl, hbr⟩
      go_wp2_with fail
      go_ret
      exact ⟨rfl, Bq.trans (hbr.mono Bq.size)⟩
    · have PS := Lib.hid K.out.ps
      have HN := parsed_no h5
      rw [HN] at PS
      have b5 : ((parsed l).2 != 0) = true := by simpa using h5
      generalize (parsed l).2 = E5 at *
      clear h5 HN
      go_wp2_with fail
      refine (PS.out _).mono ?_
      rintro e wp ⟨v5, rfl, hv5, hbp⟩
      obtain ⟨a5, c5, rfl⟩ := liesF_form hv5
      have Bp : Below w.heap.size w wp := Bs.trans (hbp.mono Bs.size)
      clear hbp hv5
      rw [show Fo.nil.len = 0 from rfl]
      go_wp2_with fail
      refine (K.out.gr _).mono ?_
      rintro e wr ⟨rfl, hbr⟩
      go_wp2_with fail
      go_ret
      exact ⟨rfl, Bp.trans (hbr.mono Bp.size)⟩
  | false =>
    go_wp2_with fail
    refine (in_any _ _ _ _).mono ?_
    rintro e wi ⟨rfl, rfl⟩
    rw [digI_in]
    by_cases h5 : (parsed l).2 = 0
    · have PS := Lib.hid K.out.ps
      have PX := Lib.hid (K.out.px h5)
      rw [h5] at PS
      clear h5
      go_wp2_with fail
      refine (PS.out _).mono ?_
      rintro e wp ⟨v5, rfl, hv5, hbp⟩
      obtain ⟨a5, c5, rfl⟩ := liesF_form hv5
      have V5 := Lib.hid (liesF_lies hv5)
      have Bp : Below w.heap.size w wp := Bs.trans (hbp.mono Bs.size)
      clear hbp hv5
      go_wp2_with fail
      refine (PX.out _ _ V5.out).mono ?_
      rintro e wq ⟨rfl, hbq⟩
      have Bq : Below w.heap.size w wq := Bp.trans (hbq.mono Bp.size)
      clear hbq
      go_wp2_with fail
      refine (K.out.gr _).mono ?_
      rintro e wr ⟨rfl, hbr⟩
      go_wp2_with fail
      go_ret
      exact ⟨rfl, Bq.trans (hbr.mono Bq.size)⟩
    · have PS := Lib.hid K.out.ps
      have HN := parsed_no h5
      rw [HN] at PS
      have b5 : ((parsed l).2 != 0) = true := by simpa using h5
      generalize (parsed l).2 = E5 at *
      clear h5 HN
      go_wp2_with fail
      refine (PS.out _).mono ?_
      rintro e wp ⟨v5, rfl, hv5, hbp⟩
      obtain ⟨a5, c5, rfl⟩ := liesF_form hv5
      have Bp : Below w.heap.size w wp := Bs.trans (hbp.mono Bs.size)
      clear hbp hv5
      rw [show Fo.nil.len = 0 from rfl]
      go_wp2_with fail
      refine (K.out.gr _).mono ?_
      rintro e wr ⟨rfl, hbr⟩
      go_wp2_with fail
      go_ret
      exact ⟨rfl, Bp.trans (hbr.mono Bp.size)⟩

set_option maxRecDepth 100000 in
set_option maxHeartbeats 16000000 in
theorem back_tf (f g : Fo) (a : Option Addr) (cap : Nat) (a' : Option Addr) (cap' : Nat) (l : List UInt8) (w : World) (h3 : l.length ≤ 3000) (h1 : fitB f = true) (h2 : fitB g = true) (k : Bk f g a cap a' cap' l w) (p1 : (foQ true f).length ≤ 20000) (p2 : ¬ (foQ true g).length ≤ 20000) :
    Calls Tryz.prog 13 #[.slice a f.len cap, .slice a' g.len cap', .string ⟨l.toArray⟩] w fun e w' => e = .returned (.bool true) ∧ Below w.heap.size w w' := by
  have e1 := (fit_parts h1).2
  have e2 := (fit_parts h2).2
  obtain ⟨B, hB⟩ : ∃ B, dec (f = g) = B := ⟨_, rfl⟩
  have HB := Lib.hid hB
  have HD := Lib.hid (show B = true → digI (foQ true f) = digI (foQ true g) from fun hb => by
    rw [← hB] at hb
    by_cases h : f = g
    · rw [h]
    · rw [dec_neg h] at hb; cases hb)
  have d3 : decide ((3000 : Int) < (l.length : Int)) = false := by simp; omega
  have HP := Lib.hid (printF_yes e1 p1)
  have HQ := Lib.hid (printF_long e2 p2)
  have PT := Lib.hid (k.pt (by rw [HP.out]))
  rw [HP.out] at PT
  have K := Lib.hid k
  clear k hB h1 h2 h3 e1 e2
  go_enter Tryz.func13, Tryz.ntmps13
  go_wp2_with fail
  refine (K.out.ff _ (Below.refl _ _)).mono ?_
  rintro e w1 ⟨rfl, hb1⟩
  have B1 : Below w.heap.size w w1 := hb1
  go_wp2_with fail
  refine (K.out.fg _ B1).mono ?_
  rintro e w2 ⟨rfl, hb2⟩
  have B2 : Below w.heap.size w w2 := B1.trans (hb2.mono B1.size)
  go_wp2_with fail
  refine (K.out.pf _ B2).mono ?_
  rintro e w3 ⟨rfl, hb3⟩
  have B3 : Below w.heap.size w w3 := B2.trans (hb3.mono B2.size)
  go_wp2_with fail
  refine (K.out.pg _ B3).mono ?_
  rintro e w4 ⟨rfl, hb4⟩
  have B4 : Below w.heap.size w w4 := B3.trans (hb4.mono B3.size)
  clear hb1 hb2 hb3 hb4 B1 B2 B3
  rw [HP.out, HQ.out]
  go_wp2_with fail
  refine (PT.out _).mono ?_
  rintro e w5 ⟨v5, rfl, hv5, hb5⟩
  obtain ⟨a5, c5, rfl⟩ := liesF_form hv5
  have V5 := Lib.hid (liesF_lies hv5)
  have B5 : Below w.heap.size w w5 := B4.trans (hb5.mono B4.size)
  clear hb5 hv5
  go_wp2_with fail
  refine (K.out.sf _ _ V5.out B5).mono ?_
  rintro e w6 ⟨rfl, hb6⟩
  have B6 : Below w.heap.size w w6 := B5.trans (hb6.mono B5.size)
  clear hb6 B5
  go_wp2_with fail
  refine (K.out.df _ B6).mono ?_
  rintro e wd ⟨rfl, hbd⟩
  have Bd : Below w.heap.size w wd := B6.trans (hbd.mono B6.size)
  clear hbd
  go_wp2_with fail
  refine (K.out.dg _ Bd).mono ?_
  rintro e wc ⟨rfl, hbc⟩
  have Bc : Below w.heap.size w wc := Bd.trans (hbc.mono Bd.size)
  clear hbc Bd
  go_wp2_with fail
  refine (K.out.sm _ Bc).mono ?_
  rintro e ws ⟨rfl, hbs⟩
  have Bs : Below w.heap.size w ws := Bc.trans (hbs.mono Bc.size)
  clear hbs Bc
  rw [HB.out]
  cases B with
  | true =>
    have hdd := HD.out rfl
    rw [hdd]
    go_wp2_with fail
    refine (in_any _ _ _ _).mono ?_
    rintro e wi ⟨rfl, rfl⟩
    rw [digI_in]
    by_cases h5 : (parsed l).2 = 0
    · have PS := Lib.hid K.out.ps
      have PX := Lib.hid (K.out.px h5)
      rw [h5] at PS
      clear h5
      go_wp2_with fail
      refine (PS.out _).mono ?_
      rintro e wp ⟨v5, rfl, hv5, hbp⟩
      obtain ⟨a5, c5, rfl⟩ := liesF_form hv5
      have V5 := Lib.hid (liesF_lies hv5)
      have Bp : Below w.heap.size w wp := Bs.trans (hbp.mono Bs.size)
      clear hbp hv5
      go_wp2_with fail
      refine (PX.out _ _ V5.out).mono ?_
      rintro e wq ⟨rfl, hbq⟩
      have Bq : Below w.heap.size w wq := Bp.trans (hbq.mono Bp.size)
      clear hbq
      go_wp2_with fail
      refine (K.out.gr _).mono ?_
      rintro e wr ⟨rfl, hbr⟩
      go_wp2_with fail
      go_ret
      exact ⟨rfl, Bq.trans (hbr.mono Bq.size)⟩
    · have PS := Lib.hid K.out.ps
      have HN := parsed_no h5
      rw [HN] at PS
      have b5 : ((parsed l).2 != 0) = true := by simpa using h5
      generalize (parsed l).2 = E5 at *
      clear h5 HN
      go_wp2_with fail
      refine (PS.out _).mono ?_
      rintro e wp ⟨v5, rfl, hv5, hbp⟩
      obtain ⟨a5, c5, rfl⟩ := liesF_form hv5
      have Bp : Below w.heap.size w wp := Bs.trans (hbp.mono Bs.size)
      clear hbp hv5
      rw [show Fo.nil.len = 0 from rfl]
      go_wp2_with fail
      refine (K.out.gr _).mono ?_
      rintro e wr ⟨rfl, hbr⟩
      go_wp2_with fail
      go_ret
      exact ⟨rfl, Bp.trans (hbr.mono Bp.size)⟩
  | false =>
    go_wp2_with fail
    refine (in_any _ _ _ _).mono ?_
    rintro e wi ⟨rfl, rfl⟩
    rw [digI_in]
    by_cases h5 : (parsed l).2 = 0
    · have PS := Lib.hid K.out.ps
      have PX := Lib.hid (K.out.px h5)
      rw [h5] at PS
      clear h5
      go_wp2_with fail
      refine (PS.out _).mono ?_
      rintro e wp ⟨v5, rfl, hv5, hbp⟩
      obtain ⟨a5, c5, rfl⟩ := liesF_form hv5
      have V5 := Lib.hid (liesF_lies hv5)
      have Bp : Below w.heap.size w wp := Bs.trans (hbp.mono Bs.size)
      clear hbp hv5
      go_wp2_with fail
      refine (PX.out _ _ V5.out).mono ?_
      rintro e wq ⟨rfl, hbq⟩
      have Bq : Below w.heap.size w wq := Bp.trans (hbq.mono Bp.size)
      clear hbq
      go_wp2_with fail
      refine (K.out.gr _).mono ?_
      rintro e wr ⟨rfl, hbr⟩
      go_wp2_with fail
      go_ret
      exact ⟨rfl, Bq.trans (hbr.mono Bq.size)⟩
    · have PS := Lib.hid K.out.ps
      have HN := parsed_no h5
      rw [HN] at PS
      have b5 : ((parsed l).2 != 0) = true := by simpa using h5
      generalize (parsed l).2 = E5 at *
      clear h5 HN
      go_wp2_with fail
      refine (PS.out _).mono ?_
      rintro e wp ⟨v5, rfl, hv5, hbp⟩
      obtain ⟨a5, c5, rfl⟩ := liesF_form hv5
      have Bp : Below w.heap.size w wp := Bs.trans (hbp.mono Bs.size)
      clear hbp hv5
      rw [show Fo.nil.len = 0 from rfl]
      go_wp2_with fail
      refine (K.out.gr _).mono ?_
      rintro e wr ⟨rfl, hbr⟩
      go_wp2_with fail
      go_ret
      exact ⟨rfl, Bp.trans (hbr.mono Bp.size)⟩

set_option maxRecDepth 100000 in
set_option maxHeartbeats 16000000 in
theorem back_f (f g : Fo) (a : Option Addr) (cap : Nat) (a' : Option Addr) (cap' : Nat) (l : List UInt8) (w : World) (h3 : l.length ≤ 3000) (h1 : fitB f = true) (h2 : fitB g = true) (k : Bk f g a cap a' cap' l w) (p1 : ¬ (foQ true f).length ≤ 20000) :
    Calls Tryz.prog 13 #[.slice a f.len cap, .slice a' g.len cap', .string ⟨l.toArray⟩] w fun e w' => e = .returned (.bool true) ∧ Below w.heap.size w w' := by
  have e1 := (fit_parts h1).2
  have e2 := (fit_parts h2).2
  obtain ⟨B, hB⟩ : ∃ B, dec (f = g) = B := ⟨_, rfl⟩
  have HB := Lib.hid hB
  have HD := Lib.hid (show B = true → digI (foQ true f) = digI (foQ true g) from fun hb => by
    rw [← hB] at hb
    by_cases h : f = g
    · rw [h]
    · rw [dec_neg h] at hb; cases hb)
  have d3 : decide ((3000 : Int) < (l.length : Int)) = false := by simp; omega
  have HP := Lib.hid (printF_long e1 p1)
  have K := Lib.hid k
  clear k hB h1 h2 h3 e1 e2
  go_enter Tryz.func13, Tryz.ntmps13
  go_wp2_with fail
  refine (K.out.ff _ (Below.refl _ _)).mono ?_
  rintro e w1 ⟨rfl, hb1⟩
  have B1 : Below w.heap.size w w1 := hb1
  go_wp2_with fail
  refine (K.out.fg _ B1).mono ?_
  rintro e w2 ⟨rfl, hb2⟩
  have B2 : Below w.heap.size w w2 := B1.trans (hb2.mono B1.size)
  go_wp2_with fail
  refine (K.out.pf _ B2).mono ?_
  rintro e w3 ⟨rfl, hb3⟩
  have B3 : Below w.heap.size w w3 := B2.trans (hb3.mono B2.size)
  go_wp2_with fail
  refine (K.out.pg _ B3).mono ?_
  rintro e w4 ⟨rfl, hb4⟩
  have B4 : Below w.heap.size w w4 := B3.trans (hb4.mono B3.size)
  clear hb1 hb2 hb3 hb4 B1 B2 B3
  rw [HP.out]
  go_wp2_with fail
  refine (K.out.df _ B4).mono ?_
  rintro e wd ⟨rfl, hbd⟩
  have Bd : Below w.heap.size w wd := B4.trans (hbd.mono B4.size)
  clear hbd
  go_wp2_with fail
  refine (K.out.dg _ Bd).mono ?_
  rintro e wc ⟨rfl, hbc⟩
  have Bc : Below w.heap.size w wc := Bd.trans (hbc.mono Bd.size)
  clear hbc Bd
  go_wp2_with fail
  refine (K.out.sm _ Bc).mono ?_
  rintro e ws ⟨rfl, hbs⟩
  have Bs : Below w.heap.size w ws := Bc.trans (hbs.mono Bc.size)
  clear hbs Bc
  rw [HB.out]
  cases B with
  | true =>
    have hdd := HD.out rfl
    rw [hdd]
    go_wp2_with fail
    refine (in_any _ _ _ _).mono ?_
    rintro e wi ⟨rfl, rfl⟩
    rw [digI_in]
    by_cases h5 : (parsed l).2 = 0
    · have PS := Lib.hid K.out.ps
      have PX := Lib.hid (K.out.px h5)
      rw [h5] at PS
      clear h5
      go_wp2_with fail
      refine (PS.out _).mono ?_
      rintro e wp ⟨v5, rfl, hv5, hbp⟩
      obtain ⟨a5, c5, rfl⟩ := liesF_form hv5
      have V5 := Lib.hid (liesF_lies hv5)
      have Bp : Below w.heap.size w wp := Bs.trans (hbp.mono Bs.size)
      clear hbp hv5
      go_wp2_with fail
      refine (PX.out _ _ V5.out).mono ?_
      rintro e wq ⟨rfl, hbq⟩
      have Bq : Below w.heap.size w wq := Bp.trans (hbq.mono Bp.size)
      clear hbq
      go_wp2_with fail
      refine (K.out.gr _).mono ?_
      rintro e wr ⟨rfl, hbr⟩
      go_wp2_with fail
      go_ret
      exact ⟨rfl, Bq.trans (hbr.mono Bq.size)⟩
    · have PS := Lib.hid K.out.ps
      have HN := parsed_no h5
      rw [HN] at PS
      have b5 : ((parsed l).2 != 0) = true := by simpa using h5
      generalize (parsed l).2 = E5 at *
      clear h5 HN
      go_wp2_with fail
      refine (PS.out _).mono ?_
      rintro e wp ⟨v5, rfl, hv5, hbp⟩
      obtain ⟨a5, c5, rfl⟩ := liesF_form hv5
      have Bp : Below w.heap.size w wp := Bs.trans (hbp.mono Bs.size)
      clear hbp hv5
      rw [show Fo.nil.len = 0 from rfl]
      go_wp2_with fail
      refine (K.out.gr _).mono ?_
      rintro e wr ⟨rfl, hbr⟩
      go_wp2_with fail
      go_ret
      exact ⟨rfl, Bp.trans (hbr.mono Bp.size)⟩
  | false =>
    go_wp2_with fail
    refine (in_any _ _ _ _).mono ?_
    rintro e wi ⟨rfl, rfl⟩
    rw [digI_in]
    by_cases h5 : (parsed l).2 = 0
    · have PS := Lib.hid K.out.ps
      have PX := Lib.hid (K.out.px h5)
      rw [h5] at PS
      clear h5
      go_wp2_with fail
      refine (PS.out _).mono ?_
      rintro e wp ⟨v5, rfl, hv5, hbp⟩
      obtain ⟨a5, c5, rfl⟩ := liesF_form hv5
      have V5 := Lib.hid (liesF_lies hv5)
      have Bp : Below w.heap.size w wp := Bs.trans (hbp.mono Bs.size)
      clear hbp hv5
      go_wp2_with fail
      refine (PX.out _ _ V5.out).mono ?_
      rintro e wq ⟨rfl, hbq⟩
      have Bq : Below w.heap.size w wq := Bp.trans (hbq.mono Bp.size)
      clear hbq
      go_wp2_with fail
      refine (K.out.gr _).mono ?_
      rintro e wr ⟨rfl, hbr⟩
      go_wp2_with fail
      go_ret
      exact ⟨rfl, Bq.trans (hbr.mono Bq.size)⟩
    · have PS := Lib.hid K.out.ps
      have HN := parsed_no h5
      rw [HN] at PS
      have b5 : ((parsed l).2 != 0) = true := by simpa using h5
      generalize (parsed l).2 = E5 at *
      clear h5 HN
      go_wp2_with fail
      refine (PS.out _).mono ?_
      rintro e wp ⟨v5, rfl, hv5, hbp⟩
      obtain ⟨a5, c5, rfl⟩ := liesF_form hv5
      have Bp : Below w.heap.size w wp := Bs.trans (hbp.mono Bs.size)
      clear hbp hv5
      rw [show Fo.nil.len = 0 from rfl]
      go_wp2_with fail
      refine (K.out.gr _).mono ?_
      rintro e wr ⟨rfl, hbr⟩
      go_wp2_with fail
      go_ret
      exact ⟨rfl, Bp.trans (hbr.mono Bp.size)⟩

set_option maxRecDepth 100000 in
set_option maxHeartbeats 4000000 in
theorem back_any (f : Fo) (v : Value) (g : Fo) (u : Value) (l : List UInt8) (w : World) (hl : Lies w v f) (hg : Lies w u g) (hs : (⟨l.toArray⟩ : ByteArray).size ≤ maxLen) :
    Calls Tryz.prog 13 #[v, u, .string ⟨l.toArray⟩] w fun e w' => e = .returned (.bool true) ∧ Below w.heap.size w w' := by
  obtain ⟨a, cap, rfl⟩ := lies_form hl
  obtain ⟨a', cap', rfl⟩ := lies_form hg
  have hsz : l.length ≤ 9223372036854775807 := by unfold maxLen at hs; simpa [ByteArray.size] using hs
  have FF := Lib.hid (fit_any f _ w hl)
  have FG := Lib.hid (fun w1 (hw : Below w.heap.size w w1) => fit_any g _ w1 (lies_below hg hw))
  have GR := Lib.hid (fun w => grown_any w)
  cases h1 : fitB f with
  | false =>
    rw [h1] at FF
    clear hl hg hs
    go_enter Tryz.func13, Tryz.ntmps13
    go_wp2_with fail
    refine FF.out.mono ?_
    rintro e w1 ⟨rfl, hb1⟩
    go_wp2_with fail
    refine (GR.out _).mono ?_
    rintro e w2 ⟨rfl, hb2⟩
    go_wp2_with fail
    go_ret
    exact ⟨rfl, hb1.trans (hb2.mono hb1.size)⟩
  | true =>
    rw [h1] at FF
    cases h2 : fitB g with
    | false =>
      rw [h2] at FG
      clear hl hg hs
      go_enter Tryz.func13, Tryz.ntmps13
      go_wp2_with fail
      refine FF.out.mono ?_
      rintro e w1 ⟨rfl, hb1⟩
      go_wp2_with fail
      refine (FG.out _ hb1).mono ?_
      rintro e w2 ⟨rfl, hb2⟩
      have B2 : Below w.heap.size w w2 := hb1.trans (hb2.mono hb1.size)
      go_wp2_with fail
      refine (GR.out _).mono ?_
      rintro e w3 ⟨rfl, hb3⟩
      go_wp2_with fail
      go_ret
      exact ⟨rfl, B2.trans (hb3.mono B2.size)⟩
    | true =>
      rw [h2] at FG
      by_cases h3 : l.length ≤ 3000
      · have k := bk_of f g a cap a' cap' l w hl hg h3 h1 h2
        by_cases p1 : (foQ true f).length ≤ 20000
        · by_cases p2 : (foQ true g).length ≤ 20000
          · exact back_tt f g a cap a' cap' l w h3 h1 h2 k p1 p2
          · exact back_tf f g a cap a' cap' l w h3 h1 h2 k p1 p2
        · exact back_f f g a cap a' cap' l w h3 h1 h2 k p1
      · have d3 : decide ((3000 : Int) < (l.length : Int)) = true := by simp; omega
        clear hl hg hs h3
        go_enter Tryz.func13, Tryz.ntmps13
        go_wp2_with fail
        refine FF.out.mono ?_
        rintro e w1 ⟨rfl, hb1⟩
        go_wp2_with fail
        refine (FG.out _ hb1).mono ?_
        rintro e w2 ⟨rfl, hb2⟩
        have B2 : Below w.heap.size w w2 := hb1.trans (hb2.mono hb1.size)
        go_wp2_with fail
        refine (GR.out _).mono ?_
        rintro e w3 ⟨rfl, hb3⟩
        go_wp2_with fail
        go_ret
        exact ⟨rfl, B2.trans (hb3.mono B2.size)⟩
end Go.Proofs.YtefongoinlcgaaaGreat
