/- What the proof of PrfTreeBack rests on, part 10 of 10. -/
import Derived.Deep.Slices
import Derived.Deep.SlicePairs
import Derived.ChangeArms
import Derived.SizedLaws
import Derived.Test.YtcgedpfolloinaaGreatPPrfTreeBack9
namespace Go.Proofs.YtcgedpfolloinaaGreat
open Go.RowKit

def digI (l : List UInt8) : Int := l.foldl (fun a c => (a * 1009 + (c.toNat : Int) + 1) % 999983) 0
theorem digI_snoc (l : List UInt8) (c : UInt8) : digI (l ++ [c]) = (digI l * 1009 + (c.toNat : Int) + 1) % 999983 := by simp [digI, List.foldl_append]
theorem dig_bound : ∀ (l : List UInt8) (a : Int), 0 ≤ a ∧ a < 999983 → 0 ≤ l.foldl (fun a c => (a * 1009 + (c.toNat : Int) + 1) % 999983) a ∧ l.foldl (fun a c => (a * 1009 + (c.toNat : Int) + 1) % 999983) a < 999983
  | [], a, h => h
  | c :: t, a, h => by
    rw [List.foldl_cons]
    exact dig_bound t _ (by omega)
theorem digI_bound (l : List UInt8) : 0 ≤ digI l ∧ digI l < 999983 := dig_bound l 0 (by omega)
theorem digI_take {l : List UInt8} {k : Nat} (h : k < l.length) : digI (l.take (k + 1)) = (digI (l.take k) * 1009 + (l[k].toNat : Int) + 1) % 999983 := by
  rw [List.take_succ_eq_append_getElem h, digI_snoc]
def digF (f : Fo) : Int × Int := if foErr f = 0 then (digI (foQ true f), 0) else (0, foErr f)

set_option maxRecDepth 100000 in
set_option maxHeartbeats 2000000 in
theorem tdigest_any (f : Fo) (v : Value) (w : World) (hl : Lies w v f) (hs : Small f) :
    Calls Tryz.prog 25 #[v] w fun e w' => e = .returned (.tuple #[.int .i64 (digF f).1, .int .i64 (digF f).2]) ∧ Below w.heap.size w w' := by
  have CH := Lib.hid (tcheck_any f v w hl hs)
  have HV := Lib.hid (fun h => valid_ok (f := f) h)
  have WR := Lib.hid (fun w1 (hw : Below w.heap.size w w1) (ha : foAsc f ∧ (foQ true f).length ≤ 48000) => written_any f v w1 (lies_below hl hw) ha.1 (by omega))
  obtain ⟨a, cap, rfl⟩ := lies_form hl
  have HP := Lib.hid (show digF f = if foErr f = 0 then (digI (foQ true f), 0) else (0, foErr f) from rfl)
  clear hl hs
  generalize foErr f = er at *
  by_cases he : er = 0
  · have b0 : (er != 0) = false := by simpa using he
    have HA2 := Lib.hid (HV.out he)
    have HQ := Lib.hid (HP.out.trans (if_pos he))
    clear he
    generalize foQ true f = q at *
    have hql := HA2.out.2
    go_enter Tryz.func25, Tryz.ntmps25
    go_wp2_with fail
    refine CH.out.mono ?_
    rintro e w1 ⟨rfl, hb1⟩
    go_wp2_with fail
    refine (WR.out w1 hb1 HA2.out).mono ?_
    rintro e w2 ⟨rfl, hb2⟩
    have hB := hb1.trans (hb2.mono hb1.size)
    obtain ⟨cap2, w3, hcv, hb3, hz3, hcell⟩ := conv_bytes q w2
    have HC := Lib.hid hcell; clear hcell
    have HB := Lib.hid (hB.trans (hb3.mono hB.size)); clear hB hb3 hb2 hb1
    go_wp2_with fail
    go_loopw [5, 17] (fun d i wr => ∃ k : Nat, k ≤ q.length ∧ i = .int .i64 k ∧ d = .int .i64 (digI (q.take k)) ∧ wr = w3) (fun _ i _ => q.length - (intOf i).toNat)
    case atStart => exact ⟨0, Nat.zero_le _, rfl, rfl, rfl⟩
    case round =>
      obtain ⟨k, hk, rfl, rfl, rfl⟩ := hrel
      by_cases hlt : k < q.length
      · have dk : decide (k < q.length) = true := by simpa using hlt
        have hce := HC.out k hlt
        have HT := Lib.hid (digI_take hlt)
        have hbd := digI_bound (q.take k)
        obtain ⟨c, hc⟩ : ∃ c, q[k] = c := ⟨_, rfl⟩
        rw [hc] at hce HT
        clear hc
        have hc256 : c.toNat < 256 := c.toNat_lt
        generalize digI (q.take k) = d at *
        have hwr1 : IntKind.i64.wrap (d * 1009) = d * 1009 := by rw [IntKind.wrap_i64]; omega
        have hwr2 : IntKind.i64.wrap (d * 1009 + (c.toNat : Int)) = d * 1009 + c.toNat := by rw [IntKind.wrap_i64]; omega
        have hwr3 : IntKind.i64.wrap (d * 1009 + (c.toNat : Int) + 1) = d * 1009 + c.toNat + 1 := by rw [IntKind.wrap_i64]; omega
        have hwr5 : IntKind.i64.wrap (c.toNat : Int) = c.toNat := by rw [IntKind.wrap_i64]; omega
        go_wp2_with fail
        go_roundw
        case rel => exact ⟨k + 1, by omega, by go_num, by rw [HT.out], trivial⟩
        case measure => simp [intOf]; omega
      · have dk : decide (k < q.length) = false := by simpa using hlt
        obtain rfl : k = q.length := by omega
        go_wp2_with fail
        go_ret2
        rw [HQ.out, List.take_length]
        exact ⟨rfl, HB.out⟩
  · have b0 : (er != 0) = true := by simpa using he
    have HQ := Lib.hid (HP.out.trans (if_neg (by simpa using he)))
    clear he
    go_enter Tryz.func25, Tryz.ntmps25
    go_wp2_with fail
    refine CH.out.mono ?_
    rintro e w1 ⟨rfl, hb1⟩
    go_wp2_with fail
    go_ret2
    rw [HQ.out]
    exact ⟨rfl, hb1⟩
end Go.Proofs.YtcgedpfolloinaaGreat

namespace Go.Proofs.YtcgedpfolloinaaGreat
open Go.RowKit

theorem digI_in (l : List UInt8) : inB (digI l) 0 999982 = true := by
  have : 0 ≤ digI l ∧ digI l ≤ 999982 := by
    unfold digI
    rcases List.eq_nil_or_concat l with rfl | ⟨t, c, rfl⟩
    · decide
    · rw [List.concat_eq_append, List.foldl_append]
      simp only [List.foldl_cons, List.foldl_nil]
      omega
  unfold inB
  simp; omega
def fitB (f : Fo) : Bool := !great f && decide (foErr f = 0)
set_option maxRecDepth 100000 in
set_option maxHeartbeats 1000000 in
theorem fit_any (f : Fo) (v : Value) (w : World) (hl : Lies w v f) : Calls Tryz.prog 60 #[v] w fun e w' => e = .returned (.bool (fitB f)) ∧ Below w.heap.size w w' := by
  have GF := Lib.hid (great_any f.size f v w (Nat.le_refl _) hl)
  cases hg : great f with
  | true =>
    rw [hg] at GF
    have HX := Lib.hid (show fitB f = false by unfold fitB; rw [hg]; rfl)
    rw [HX.out]
    clear hl
    go_enter Tryz.func60, Tryz.ntmps60
    go_wp2_with fail
    refine GF.out.mono ?_
    rintro e w1 ⟨rfl, hb1⟩
    go_wp2_with fail
    go_ret
    exact ⟨rfl, hb1⟩
  | false =>
    rw [hg] at GF
    have QF := Lib.hid (fun w1 (hw : Below w.heap.size w w1) => qcheck_any f v w1 (lies_below hl hw) (small_lies hl hg))
    by_cases h0 : foErr f = 0
    · have HX := Lib.hid (show fitB f = true by unfold fitB; rw [hg, h0]; rfl)
      rw [HX.out]
      rw [h0] at QF
      clear hl h0
      go_enter Tryz.func60, Tryz.ntmps60
      go_wp2_with fail
      refine GF.out.mono ?_
      rintro e w1 ⟨rfl, hb1⟩
      go_wp2_with fail
      refine (QF.out _ hb1).mono ?_
      rintro e w2 ⟨rfl, hb2⟩
      go_wp2_with fail
      go_ret
      exact ⟨rfl, hb1.trans (hb2.mono hb1.size)⟩
    · have HX := Lib.hid (show fitB f = false by unfold fitB; rw [hg]; simp [h0])
      rw [HX.out]
      generalize foErr f = E at *
      have b0 : (E == 0) = false := by simpa using h0
      clear hl h0
      go_enter Tryz.func60, Tryz.ntmps60
      go_wp2_with fail
      refine GF.out.mono ?_
      rintro e w1 ⟨rfl, hb1⟩
      go_wp2_with fail
      refine (QF.out _ hb1).mono ?_
      rintro e w2 ⟨rfl, hb2⟩
      go_wp2_with fail
      go_ret
      exact ⟨rfl, hb1.trans (hb2.mono hb1.size)⟩
theorem fit_parts {f : Fo} (h : fitB f = true) : great f = false ∧ foErr f = 0 := by
  unfold fitB at h
  simpa using h
theorem parsed_ok {l : List UInt8} (h : (parsed l).2 = 0) : readP l = some (parsed l).1 ∧ foErr (parsed l).1 = 0 := by
  unfold parsed at h ⊢
  by_cases h1 : 20000 < l.length
  · rw [if_pos h1] at h; cases h
  · rw [if_neg h1] at h ⊢
    cases hr : readP l with
    | none => rw [hr] at h; cases h
    | some f =>
      rw [hr] at h
      simp only at h ⊢
      by_cases h0 : foErr f = 0
      · rw [if_pos h0]; exact ⟨rfl, h0⟩
      · rw [if_neg h0] at h; exact absurd h h0
theorem parsed_no {l : List UInt8} (h : (parsed l).2 ≠ 0) : (parsed l).1 = .nil := by
  unfold parsed at h ⊢
  by_cases h1 : 20000 < l.length
  · rw [if_pos h1]
  · rw [if_neg h1] at h ⊢
    cases hr : readP l with
    | none => rfl
    | some f =>
      rw [hr] at h
      simp only at h ⊢
      by_cases h0 : foErr f = 0
      · rw [if_pos h0] at h; exact absurd rfl h
      · rw [if_neg h0]
theorem printF_yes {f : Fo} (h : foErr f = 0) (hl : (foQ true f).length ≤ 20000) : printF f = (foQ true f, 0) := by
  unfold printF; rw [if_neg (by simpa using h), if_pos hl]
theorem printF_long {f : Fo} (h : foErr f = 0) (hl : ¬ (foQ true f).length ≤ 20000) : printF f = ([], 8) := by
  unfold printF; rw [if_neg (by simpa using h), if_neg hl]
theorem digF_yes {f : Fo} (h : foErr f = 0) : digF f = (digI (foQ true f), 0) := if_pos h

/-- all that the law calls, of two valid forests and a text. -/
structure Bk (f g : Fo) (a : Option Addr) (cap : Nat) (a' : Option Addr) (cap' : Nat) (l : List UInt8) (w : World) : Prop where
  hl : Lies w (.slice a f.len cap) f
  hg : Lies w (.slice a' g.len cap') g
  gr : ∀ w, Calls Tryz.prog 16 #[] w fun e w' => e = .returned (.bool true) ∧ Below w.heap.size w w'
  ff : ∀ w1, Below w.heap.size w w1 → Calls Tryz.prog 60 #[.slice a f.len cap] w1 fun e w' => e = .returned (.bool true) ∧ Below w1.heap.size w1 w'
  fg : ∀ w1, Below w.heap.size w w1 → Calls Tryz.prog 60 #[.slice a' g.len cap'] w1 fun e w' => e = .returned (.bool true) ∧ Below w1.heap.size w1 w'
  pf : ∀ w1, Below w.heap.size w w1 → Calls Tryz.prog 56 #[.slice a f.len cap] w1 fun e w' => e = .returned (.tuple #[.string ⟨(printF f).1.toArray⟩, .int .i64 (printF f).2]) ∧ Below w1.heap.size w1 w'
  pg : ∀ w1, Below w.heap.size w w1 → Calls Tryz.prog 56 #[.slice a' g.len cap'] w1 fun e w' => e = .returned (.tuple #[.string ⟨(printF g).1.toArray⟩, .int .i64 (printF g).2]) ∧ Below w1.heap.size w1 w'
  df : ∀ w1, Below w.heap.size w w1 → Calls Tryz.prog 25 #[.slice a f.len cap] w1 fun e w' => e = .returned (.tuple #[.int .i64 (digI (foQ true f)), .int .i64 0]) ∧ Below w1.heap.size w1 w'
  dg : ∀ w1, Below w.heap.size w w1 → Calls Tryz.prog 25 #[.slice a' g.len cap'] w1 fun e w' => e = .returned (.tuple #[.int .i64 (digI (foQ true g)), .int .i64 0]) ∧ Below w1.heap.size w1 w'
  sm : ∀ w1, Below w.heap.size w w1 → Calls Tryz.prog 35 #[.slice a f.len cap, .slice a' g.len cap'] w1 fun e w' => e = .returned (.bool (dec (f = g))) ∧ Below w1.heap.size w1 w'
  sf : ∀ v w1, Lies w1 v f → Below w.heap.size w w1 → Calls Tryz.prog 35 #[v, .slice a f.len cap] w1 fun e w' => e = .returned (.bool true) ∧ Below w1.heap.size w1 w'
  ps : ∀ w1, Calls Tryz.prog 58 #[.string ⟨l.toArray⟩] w1 fun e w' => ∃ v, e = .returned (.tuple #[v, .int .i64 (parsed l).2]) ∧ LiesF w1.heap.size w' v (parsed l).1 ∧ Below w1.heap.size w1 w'
  pt : (printF f).2 = 0 → ∀ w1, Calls Tryz.prog 58 #[.string ⟨(printF f).1.toArray⟩] w1 fun e w' => ∃ v, e = .returned (.tuple #[v, .int .i64 0]) ∧ LiesF w1.heap.size w' v f ∧ Below w1.heap.size w1 w'
  px : (parsed l).2 = 0 → ∀ v w1, Lies w1 v (parsed l).1 → Calls Tryz.prog 56 #[v] w1 fun e w' => e = .returned (.tuple #[.string ⟨l.toArray⟩, .int .i64 0]) ∧ Below w1.heap.size w1 w'
theorem bk_of (f g : Fo) (a : Option Addr) (cap : Nat) (a' : Option Addr) (cap' : Nat) (l : List UInt8) (w : World) (hl : Lies w (.slice a f.len cap) f) (hg : Lies w (.slice a' g.len cap') g) (h3 : l.length ≤ 3000) (h1 : fitB f = true) (h2 : fitB g = true) :
    Bk f g a cap a' cap' l w := by
  obtain ⟨g1, e1⟩ := fit_parts h1
  obtain ⟨g2, e2⟩ := fit_parts h2
  have s1 := small_lies hl g1
  have s2 := small_lies hg g2
  refine ⟨hl, hg, grown_any, fun w1 hw => ?_, fun w1 hw => ?_, fun w1 hw => print_tree f _ w1 (lies_below hl hw) s1, fun w1 hw => print_tree g _ w1 (lies_below hg hw) s2, fun w1 hw => ?_, fun w1 hw => ?_,
    fun w1 hw => same_any f.size f g (Nat.le_refl _) _ _ w1 (lies_below hl hw) (lies_below hg hw), fun v w1 hv hw => same_refl f.size f (Nat.le_refl _) v _ w1 hv (lies_below hl hw), fun w1 => tparse_any l w1 (by omega), fun hp w1 => ?_, fun hp v w1 hv => ?_⟩
  · have := fit_any f _ w1 (lies_below hl hw); rwa [h1] at this
  · have := fit_any g _ w1 (lies_below hg hw); rwa [h2] at this
  · have := tdigest_any f _ w1 (lies_below hl hw) s1; rwa [digF_yes e1] at this
  · have := tdigest_any g _ w1 (lies_below hg hw) s2; rwa [digF_yes e2] at this
  · have hlen : (foQ true f).length ≤ 20000 := by
      by_cases h : (foQ true f).length ≤ 20000
      · exact h
      · rw [printF_long e1 h] at hp; cases hp
    rw [printF_yes e1 hlen]
    have := tparse_any (foQ true f) w1 (by omega)
    rwa [parsed_text e1 hlen] at this
  · obtain ⟨hr, he⟩ := parsed_ok hp
    have ht := readP_text hr
    have := print_tree (parsed l).1 v w1 hv (readP_small (by omega) hr)
    rw [printF_yes he (by rw [ht]; omega), ht] at this
    exact this

set_option maxRecDepth 100000 in
set_option maxHeartbeats 16000000 in
theorem back_tt (f g : Fo) (a : Option Addr) (cap : Nat) (a' : Option Addr) (cap' : Nat) (l : List UInt8) (w : World) (h3 : l.length ≤ 3000) (h1 : fitB f = true) (h2 : fitB g = true) (k : Bk f g a cap a' cap' l w) (p1 : (foQ true f).length ≤ 20000) (p2 : (foQ true g).length ≤ 20000) :
    Calls Tryz.prog 13 #[.slice a f.len cap, .slice a' g.len cap', .string ⟨l.toArray⟩] w fun e w' => e = .returned (.bool true) ∧ Below w.heap.size w w' := by
  have e1 := (fit_parts h1).2
  have e2 := (fit_parts h2).2
  obtain ⟨B, hB⟩ : ∃ B, dec (f = g) = B := ⟨_, rfl⟩
  have HB := Lib.hid hB
  have HD := Lib.hid (show B = true → digI (foQ true f) = digI (foQ true g) from fun hb => by
    rw [← hB] at hb
    by_cases h : f = g
    · rw [h]
    · rw [dec_neg h] at hb; cases hb)
  have d3 : decide ((3000 : Int) < (l.length : Int)) = false := by simp; omega
  have HP := Lib.hid (printF_yes e1 p1)
  have HQ := Lib.hid (printF_yes e2 p2)
  have PT := Lib.hid (k.pt (by rw [HP.out]))
  rw [HP.out] at PT
  have hpq : (foQ true f == foQ true g) = B := by
    rw [← hB]
    by_cases h : f = g
    · rw [dec_pos h, h]; simp
    · rw [dec_neg h]; simpa using fun e => h (text_inj e1 e2 e)
  have K := Lib.hid k
  clear k hB h1 h2 h3 e1 e2
  go_enter Tryz.func13, Tryz.ntmps13
  go_wp2_with fail
  refine (K.out.ff _ (Below.refl _ _)).mono ?_
  rintro e w1 ⟨rfl, hb1⟩
  have B1 : Below w.heap.size w w1 := hb1
  go_wp2_with fail
  refine (K.out.fg _ B1).mono ?_
  rintro e w2 ⟨rfl, hb2⟩
  have B2 : Below w.heap.size w w2 := B1.trans (hb2.mono B1.size)
  go_wp2_with fail
  refine (K.out.pf _ B2).mono ?_
  rintro e w3 ⟨rfl, hb3⟩
  have B3 : Below w.heap.size w w3 := B2.trans (hb3.mono B2.size)
  go_wp2_with fail
  refine (K.out.pg _ B3).mono ?_
  rintro e w4 ⟨rfl, hb4⟩
  have B4 : Below w.heap.size w w4 := B3.trans (hb4.mono B3.size)
  clear hb1 hb2 hb3 hb4 B1 B2 B3
  rw [HP.out, HQ.out]
  go_wp2_with fail
  refine (PT.out _).mono ?_
  rintro e w5 ⟨v5, rfl, hv5, hb5⟩
  obtain ⟨a5, c5, rfl⟩ := liesF_form hv5
  have V5 := Lib.hid (liesF_lies hv5)
  have B5 : Below w.heap.size w w5 := B4.trans (hb5.mono B4.size)
  clear hb5 hv5
  go_wp2_with fail
  refine (K.out.sf _ _ V5.out B5).mono ?_
  rintro e w6 ⟨rfl, hb6⟩
  have B6 : Below w.heap.size w w6 := B5.trans (hb6.mono B5.size)
  clear hb6 B5
  go_wp2_with fail
  refine (K.out.sm _ B6).mono ?_
  rintro e w7 ⟨rfl, hb7⟩
  have B7 : Below w.heap.size w w7 := B6.trans (hb7.mono B6.size)
  clear hb7 B6
  rw [HB.out]
  go_wp2_with fail
  refine (K.out.df _ B7).mono ?_
  rintro e wd ⟨rfl, hbd⟩
  have Bd : Below w.heap.size w wd := B7.trans (hbd.mono B7.size)
  clear hbd
  go_wp2_with fail
  refine (K.out.dg _ Bd).mono ?_
  rintro e wc ⟨rfl, hbc⟩
  have Bc : Below w.heap.size w wc := Bd.trans (hbc.mono Bd.size)
  clear hbc Bd
  go_wp2_with fail
  refine (K.out.sm _ Bc).mono ?_
  rintro e ws ⟨rfl, hbs⟩
  have Bs : Below w.heap.size w ws := Bc.trans (hbs.mono Bc.size)
  clear hbs Bc
  rw [HB.out]
  cases B with
  | true =>
    have hdd := HD.out rfl
    rw [hdd]
    go_wp2_with fail
    refine (in_any _ _ _ _).mono ?_
    rintro e wi ⟨rfl, rfl⟩
    rw [digI_in]
    by_cases h5 : (parsed l).2 = 0
    · have PS := Lib.hid K.out.ps
      have PX := Lib.hid (K.out.px h5)
      rw [h5] at PS
      clear h5
      go_wp2_with fail
      refine (PS.out _).mono ?_
      rintro e wp ⟨v5, rfl, hv5, hbp⟩
      obtain ⟨a5, c5, rfl⟩ := liesF_form hv5
      have V5 := Lib.hid (liesF_lies hv5)
      have Bp : Below w.heap.size w wp := Bs.trans (hbp.mono Bs.size)
      clear hbp hv5
      go_wp2_with fail
      refine (PX.out _ _ V5.out).mono ?_
      rintro e wq ⟨rfl, hbq⟩
      have Bq : Below w.heap.size w wq := Bp.trans (hbq.mono Bp.size)
      clear hbq
      go_wp2_with fail
      refine (K.out.gr _).mono ?_
      rintro e wr ⟨rfl, hbr⟩
      go_wp2_with fail
      go_ret
      exact ⟨rfl, Bq.trans (hbr.mono Bq.size)⟩
    · have PS := Lib.hid K.out.ps
      have HN := parsed_no h5
      rw [HN] at PS
      have b5 : ((parsed l).2 != 0) = true := by simpa using h5
      generalize (parsed l).2 = E5 at *
      clear h5 HN
      go_wp2_with fail
      refine (PS.out _).mono ?_
      rintro e wp ⟨v5, rfl, hv5, hbp⟩
      obtain ⟨a5, c5, rfl⟩ := liesF_form hv5
      have Bp : Below w.heap.size w wp := Bs.trans (hbp.mono Bs.size)
      clear hbp hv5
      rw [show Fo.nil.len = 0 from rfl]
      go_wp2_with fail
      refine (K.out.gr _).mono ?_
      rintro e wr ⟨rfl, hbr⟩
      go_wp2_with fail
      go_ret
      exact ⟨rfl, Bp.trans (hbr.mono Bp.size)⟩
  | false =>
    go_wp2_with fail
    refine (in_any _ _ _ _).mono ?_
    rintro e wi ⟨rfl, rfl⟩
    rw [digI_in]
    by_cases h5 : (parsed l).2 = 0
    · have PS := Lib.hid K.out.ps
      have PX := Lib.hid (K.out.px h5)
      rw [h5] at PS
      clear h5
      go_wp2_with fail
      refine (PS.out _).mono ?_
      rintro e wp ⟨v5, rfl, hv5, hbp⟩
      obtain ⟨a5, c5, rfl⟩ := liesF_form hv5
      have V5 := Lib.hid (liesF_lies hv5)
      have Bp : Below w.heap.size w wp := Bs.trans (hbp.mono Bs.size)
      clear hbp hv5
      go_wp2_with fail
      refine (PX.out _ _ V5.out).mono ?_
      rintro e wq ⟨rfl, hbq⟩
      have Bq : Below w.heap.size w wq := Bp.trans (hbq.mono Bp.size)
      clear hbq
      go_wp2_with fail
      refine (K.out.gr _).mono ?_
      rintro e wr ⟨rfl, hbr⟩
      go_wp2_with fail
      go_ret
      exact ⟨rfl, Bq.trans (hbr.mono Bq.size)⟩
    · have PS := Lib.hid K.out.ps
      have HN := parsed_no h5
      rw [HN] at PS
      have b5 : ((parsed l).2 != 0) = true := by simpa using h5
      generalize (parsed l).2 = E5 at *
      clear h5 HN
      go_wp2_with fail
      refine (PS.out _).mono ?_
      rintro e wp ⟨v5, rfl, hv5, hbp⟩
      obtain ⟨a5, c5, rfl⟩ := liesF_form hv5
      have Bp : Below w.heap.size w wp := Bs.trans (hbp.mono Bs.size)
      clear hbp hv5
      rw [show Fo.nil.len = 0 from rfl]
      go_wp2_with fail
      refine (K.out.gr _).mono ?_
      rintro e wr ⟨rfl, hbr⟩
      go_wp2_with fail
      go_ret
      exact ⟨rfl, Bp.trans (hbr.mono Bp.size)⟩

set_option maxRecDepth 100000 in
set_option maxHeartbeats 16000000 in
theorem back_tf (f g : Fo) (a : Option Addr) (cap : Nat) (a' : Option Addr) (cap' : Nat) (l : List UInt8) (w : World) (h3 : l.length ≤ 3000) (h1 : fitB f = true) (h2 : fitB g = true) (k : Bk f g a cap a' cap' l w) (p1 : (foQ true f).length ≤ 20000) (p2 : ¬ (foQ true g).length ≤ 20000) :
    Calls Tryz.prog 13 #[.slice a f.len cap, .slice a' g.len cap', .string ⟨l.toArray⟩] w fun e w' => e = .returned (.bool true) ∧ Below w.heap.size w w' := by
  have e1 := (fit_parts h1).2
  have e2 := (fit_parts h2).2
  obtain ⟨B, hB⟩ : ∃ B, dec (f = g) = B := ⟨_, rfl⟩
  have HB := Lib.hid hB
  have HD := Lib.hid (show B = true → digI (foQ true f) = digI (foQ true g) from fun hb => by
    rw [← hB] at hb
    by_cases h : f = g
    · rw [h]
    · rw [dec_neg h] at hb; cases hb)
  have d3 : decide ((3000 : Int) < (l.length : Int)) = false := by simp; omega
  have HP := Lib.hid (printF_yes e1 p1)
  have HQ := Lib.hid (printF_long e2 p2)
  have PT := Lib.hid (k.pt (by rw [HP.out]))
  rw [HP.out] at PT
  have K := Lib.hid k
  clear k hB h1 h2 h3 e1 e2
  go_enter Tryz.func13, Tryz.ntmps13
  go_wp2_with fail
  refine (K.out.ff _ (Below.refl _ _)).mono ?_
  rintro e w1 ⟨rfl, hb1⟩
  have B1 : Below w.heap.size w w1 := hb1
  go_wp2_with fail
  refine (K.out.fg _ B1).mono ?_
  rintro e w2 ⟨rfl, hb2⟩
  have B2 : Below w.heap.size w w2 := B1.trans (hb2.mono B1.size)
  go_wp2_with fail
  refine (K.out.pf _ B2).mono ?_
  rintro e w3 ⟨rfl, hb3⟩
  have B3 : Below w.heap.size w w3 := B2.trans (hb3.mono B2.size)
  go_wp2_with fail
  refine (K.out.pg _ B3).mono ?_
  rintro e w4 ⟨rfl, hb4⟩
  have B4 : Below w.heap.size w w4 := B3.trans (hb4.mono B3.size)
  clear hb1 hb2 hb3 hb4 B1 B2 B3
  rw [HP.out, HQ.out]
  go_wp2_with fail
  refine (PT.out _).mono ?_
  rintro e w5 ⟨v5, rfl, hv5, hb5⟩
  obtain ⟨a5, c5, rfl⟩ := liesF_form hv5
  have V5 := Lib.hid (liesF_lies hv5)
  have B5 : Below w.heap.size w w5 := B4.trans (hb5.mono B4.size)
  clear hb5 hv5
  go_wp2_with fail
  refine (K.out.sf _ _ V5.out B5).mono ?_
  rintro e w6 ⟨rfl, hb6⟩
  have B6 : Below w.heap.size w w6 := B5.trans (hb6.mono B5.size)
  clear hb6 B5
  go_wp2_with fail
  refine (K.out.df _ B6).mono ?_
  rintro e wd ⟨rfl, hbd⟩
  have Bd : Below w.heap.size w wd := B6.trans (hbd.mono B6.size)
  clear hbd
  go_wp2_with fail
  refine (K.out.dg _ Bd).mono ?_
  rintro e wc ⟨rfl, hbc⟩
  have Bc : Below w.heap.size w wc := Bd.trans (hbc.mono Bd.size)
  clear hbc Bd
  go_wp2_with fail
  refine (K.out.sm _ Bc).mono ?_
  rintro e ws ⟨rfl, hbs⟩
  have Bs : Below w.heap.size w ws := Bc.trans (hbs.mono Bc.size)
  clear hbs Bc
  rw [HB.out]
  cases B with
  | true =>
    have hdd := HD.out rfl
    rw [hdd]
    go_wp2_with fail
    refine (in_any _ _ _ _).mono ?_
    rintro e wi ⟨rfl, rfl⟩
    rw [digI_in]
    by_cases h5 : (parsed l).2 = 0
    · have PS := Lib.hid K.out.ps
      have PX := Lib.hid (K.out.px h5)
      rw [h5] at PS
      clear h5
      go_wp2_with fail
      refine (PS.out _).mono ?_
      rintro e wp ⟨v5, rfl, hv5, hbp⟩
      obtain ⟨a5, c5, rfl⟩ := liesF_form hv5
      have V5 := Lib.hid (liesF_lies hv5)
      have Bp : Below w.heap.size w wp := Bs.trans (hbp.mono Bs.size)
      clear hbp hv5
      go_wp2_with fail
      refine (PX.out _ _ V5.out).mono ?_
      rintro e wq ⟨rfl, hbq⟩
      have Bq : Below w.heap.size w wq := Bp.trans (hbq.mono Bp.size)
      clear hbq
      go_wp2_with fail
      refine (K.out.gr _).mono ?_
      rintro e wr ⟨rfl, hbr⟩
      go_wp2_with fail
      go_ret
      exact ⟨rfl, Bq.trans (hbr.mono Bq.size)⟩
    · have PS := Lib.hid K.out.ps
      have HN := parsed_no h5
      rw [HN] at PS
      have b5 : ((parsed l).2 != 0) = true := by simpa using h5
      generalize (parsed l).2 = E5 at *
      clear h5 HN
      go_wp2_with fail
      refine (PS.out _).mono ?_
      rintro e wp ⟨v5, rfl, hv5, hbp⟩
      obtain ⟨a5, c5, rfl⟩ := liesF_form hv5
      have Bp : Below w.heap.size w wp := Bs.trans (hbp.mono Bs.size)
      clear hbp hv5
      rw [show Fo.nil.len = 0 from rfl]
      go_wp2_with fail
      refine (K.out.gr _).mono ?_
      rintro e wr ⟨rfl, hbr⟩
      go_wp2_with fail
      go_ret
      exact ⟨rfl, Bp.trans (hbr.mono Bp.size)⟩
  | false =>
    go_wp2_with fail
    refine (in_any _ _ _ _).mono ?_
    rintro e wi ⟨rfl, rfl⟩
    rw [digI_in]
    by_cases h5 : (parsed l).2 = 0
    · have PS := Lib.hid K.out.ps
      have PX := Lib.hid (K.out.px h5)
      rw [h5] at PS
      clear h5
      go_wp2_with fail
      refine (PS.out _).mono ?_
      rintro e wp ⟨v5, rfl, hv5, hbp⟩
      obtain ⟨a5, c5, rfl⟩ := liesF_form hv5
      have V5 := Lib.hid (liesF_lies hv5)
      have Bp : Below w.heap.size w wp := Bs.trans (hbp.mono Bs.size)
      clear hbp hv5
      go_wp2_with fail
      refine (PX.out _ _ V5.out).mono ?_
      rintro e wq ⟨rfl, hbq⟩
      have Bq : Below w.heap.size w wq := Bp.trans (hbq.mono Bp.size)
      clear hbq
      go_wp2_with fail
      refine (K.out.gr _).mono ?_
      rintro e wr ⟨rfl, hbr⟩
      go_wp2_with fail
      go_ret
      exact ⟨rfl, Bq.trans (hbr.mono Bq.size)⟩
    · have PS := Lib.hid K.out.ps
      have HN := parsed_no h5
      rw [HN] at PS
      have b5 : ((parsed l).2 != 0) = true := by simpa using h5
      generalize (parsed l).2 = E5 at *
      clear h5 HN
      go_wp2_with fail
      refine (PS.out _).mono ?_
      rintro e wp ⟨v5, rfl, hv5, hbp⟩
      obtain ⟨a5, c5, rfl⟩ := liesF_form hv5
      have Bp : Below w.heap.size w wp := Bs.trans (hbp.mono Bs.size)
      clear hbp hv5
      rw [show Fo.nil.len = 0 from rfl]
      go_wp2_with fail
      refine (K.out.gr _).mono ?_
      rintro e wr ⟨rfl, hbr⟩
      go_wp2_with fail
      go_ret
      exact ⟨rfl, Bp.trans (hbr.mono Bp.size)⟩

set_option maxRecDepth 100000 in
set_option maxHeartbeats 16000000 in
theorem back_f (f g : Fo) (a : Option Addr) (cap : Nat) (a' : Option Addr) (cap' : Nat) (l : List UInt8) (w : World) (h3 : l.length ≤ 3000) (h1 : fitB f = true) (h2 : fitB g = true) (k : Bk f g a cap a' cap' l w) (p1 : ¬ (foQ true f).length ≤ 20000) :
    Calls Tryz.prog 13 #[.slice a f.len cap, .slice a' g.len cap', .string ⟨l.toArray⟩] w fun e w' => e = .returned (.bool true) ∧ Below w.heap.size w w' := by
  have e1 := (fit_parts h1).2
  have e2 := (fit_parts h2).2
  obtain ⟨B, hB⟩ : ∃ B, dec (f = g) = B := ⟨_, rfl⟩
  have HB := Lib.hid hB
  have HD := Lib.hid (show B = true → digI (foQ true f) = digI (foQ true g) from fun hb => by
    rw [← hB] at hb
    by_cases h : f = g
    · rw [h]
    · rw [dec_neg h] at hb; cases hb)
  have d3 : decide ((3000 : Int) < (l.length : Int)) = false := by simp; omega
  have HP := Lib.hid (printF_long e1 p1)
  have K := Lib.hid k
  clear k hB h1 h2 h3 e1 e2
  go_enter Tryz.func13, Tryz.ntmps13
  go_wp2_with fail
  refine (K.out.ff _ (Below.refl _ _)).mono ?_
  rintro e w1 ⟨rfl, hb1⟩
  have B1 : Below w.heap.size w w1 := hb1
  go_wp2_with fail
  refine (K.out.fg _ B1).mono ?_
  rintro e w2 ⟨rfl, hb2⟩
  have B2 : Below w.heap.size w w2 := B1.trans (hb2.mono B1.size)
  go_wp2_with fail
  refine (K.out.pf _ B2).mono ?_
  rintro e w3 ⟨rfl, hb3⟩
  have B3 : Below w.heap.size w w3 := B2.trans (hb3.mono B2.size)
  go_wp2_with fail
  refine (K.out.pg _ B3).mono ?_
  rintro e w4 ⟨rfl, hb4⟩
  have B4 : Below w.heap.size w w4 := B3.trans (hb4.mono B3.size)
  clear hb1 hb2 hb3 hb4 B1 B2 B3
  rw [HP.out]
  go_wp2_with fail
  refine (K.out.df _ B4).mono ?_
  rintro e wd ⟨rfl, hbd⟩
  have Bd : Below w.heap.size w wd := B4.trans (hbd.mono B4.size)
  clear hbd
  go_wp2_with fail
  refine (K.out.dg _ Bd).mono ?_
  rintro e wc ⟨rfl, hbc⟩
  have Bc : Below w.heap.size w wc := Bd.trans (hbc.mono Bd.size)
  clear hbc Bd
  go_wp2_with fail
  refine (K.out.sm _ Bc).mono ?_
  rintro e ws ⟨rfl, hbs⟩
  have Bs : Below w.heap.size w ws := Bc.trans (hbs.mono Bc.size)
  clear hbs Bc
  rw [HB.out]
  cases B with
  | true =>
    have hdd := HD.out rfl
    rw [hdd]
    go_wp2_with fail
    refine (in_any _ _ _ _).mono ?_
    rintro e wi ⟨rfl, rfl⟩
    rw [digI_in]
    by_cases h5 : (parsed l).2 = 0
    · have PS := Lib.hid K.out.ps
      have PX := Lib.hid (K.out.px h5)
      rw [h5] at PS
      clear h5
      go_wp2_with fail
      refine (PS.out _).mono ?_
      rintro e wp ⟨v5, rfl, hv5, hbp⟩
      obtain ⟨a5, c5, rfl⟩ := liesF_form hv5
      have V5 := Lib.hid (liesF_lies hv5)
      have Bp : Below w.heap.size w wp := Bs.trans (hbp.mono Bs.size)
      clear hbp hv5
      go_wp2_with fail
      refine (PX.out _ _ V5.out).mono ?_
      rintro e wq ⟨rfl, hbq⟩
      have Bq : Below w.heap.size w wq := Bp.trans (hbq.mono Bp.size)
      clear hbq
      go_wp2_with fail
      refine (K.out.gr _).mono ?_
      rintro e wr ⟨rfl, hbr⟩
      go_wp2_with fail
      go_ret
      exact ⟨rfl, Bq.trans (hbr.mono Bq.size)⟩
    · have PS := Lib.hid K.out.ps
      have HN := parsed_no h5
      rw [HN] at PS
      have b5 : ((parsed l).2 != 0) = true := by simpa using h5
      generalize (parsed l).2 = E5 at *
      clear h5 HN
      go_wp2_with fail
      refine (PS.out _).mono ?_
      rintro e wp ⟨v5, rfl, hv5, hbp⟩
      obtain ⟨a5, c5, rfl⟩ := liesF_form hv5
      have Bp : Below w.heap.size w wp := Bs.trans (hbp.mono Bs.size)
      clear hbp hv5
      rw [show Fo.nil.len = 0 from rfl]
      go_wp2_with fail
      refine (K.out.gr _).mono ?_
      rintro e wr ⟨rfl, hbr⟩
      go_wp2_with fail
      go_ret
      exact ⟨rfl, Bp.trans (hbr.mono Bp.size)⟩
  | false =>
    go_wp2_with fail
    refine (in_any _ _ _ _).mono ?_
    rintro e wi ⟨rfl, rfl⟩
    rw [digI_in]
    by_cases h5 : (parsed l).2 = 0
    · have PS := Lib.hid K.out.ps
      have PX := Lib.hid (K.out.px h5)
      rw [h5] at PS
      clear h5
      go_wp2_with fail
      refine (PS.out _).mono ?_
      rintro e wp ⟨v5, rfl, hv5, hbp⟩
      obtain ⟨a5, c5, rfl⟩ := liesF_form hv5
      have V5 := Lib.hid (liesF_lies hv5)
      have Bp : Below w.heap.size w wp := Bs.trans (hbp.mono Bs.size)
      clear hbp hv5
      go_wp2_with fail
      refine (PX.out _ _ V5.out).mono ?_
      rintro e wq ⟨rfl, hbq⟩
      have Bq : Below w.heap.size w wq := Bp.trans (hbq.mono Bp.size)
      clear hbq
      go_wp2_with fail
      refine (K.out.gr _).mono ?_
      rintro e wr ⟨rfl, hbr⟩
      go_wp2_with fail
      go_ret
      exact ⟨rfl, Bq.trans (hbr.mono Bq.size)⟩
    · have PS := Lib.hid K.out.ps
      have HN := parsed_no h5
      rw [HN] at PS
      have b5 : ((parsed l).2 != 0) = true := by simpa using h5
      generalize (parsed l).2 = E5 at *
      clear h5 HN
      go_wp2_with fail
      refine (PS.out _).mono ?_
      rintro e wp ⟨v5, rfl, hv5, hbp⟩
      obtain ⟨a5, c5, rfl⟩ := liesF_form hv5
      have Bp : Below w.heap.size w wp := Bs.trans (hbp.mono Bs.size)
      clear hbp hv5
      rw [show Fo.nil.len = 0 from rfl]
      go_wp2_with fail
      refine (K.out.gr _).mono ?_
      rintro e wr ⟨rfl, hbr⟩
      go_wp2_with fail
      go_ret
      exact ⟨rfl, Bp.trans (hbr.mono Bp.size)⟩

set_option maxRecDepth 100000 in
set_option maxHeartbeats 4000000 in
theorem back_any (f : Fo) (v : Value) (g : Fo) (u : Value) (l : List UInt8) (w : World) (hl : Lies w v f) (hg : Lies w u g) (hs : (⟨l.toArray⟩ : ByteArray).size ≤ maxLen) :
    Calls Tryz.prog 13 #[v, u, .string ⟨l.toArray⟩] w fun e w' => e = .returned (.bool true) ∧ Below w.heap.size w w' := by
  obtain ⟨a, cap, rfl⟩ := lies_form hl
  obtain ⟨a', cap', rfl⟩ := lies_form hg
  have hsz : l.length ≤ 9223372036854775807 := by unfold maxLen at hs; simpa [ByteArray.size] using hs
  have FF := Lib.hid (fit_any f _ w hl)
  have FG := Lib.hid (fun w1 (hw : Below w.heap.size w w1) => fit_any g _ w1 (lies_below hg hw))
  have GR := Lib.hid (fun w => grown_any w)
  cases h1 : fitB f with
  | false =>
    rw [h1] at FF
    clear hl hg hs
    go_enter Tryz.func13, Tryz.ntmps13
    go_wp2_with fail
    refine FF.out.mono ?_
    rintro e w1 ⟨rfl, hb1⟩
    go_wp2_with fail
    refine (GR.out _).mono ?_
    rintro e w2 ⟨rfl, hb2⟩
    go_wp2_with fail
    go_ret
    exact ⟨rfl, hb1.trans (hb2.mono hb1.size)⟩
  | true =>
    rw [h1] at FF
    cases h2 : fitB g with
    | false =>
      rw [h2] at FG
      clear hl hg hs
      go_enter Tryz.func13, Tryz.ntmps13
      go_wp2_with fail
      refine FF.out.mono ?_
      rintro e w1 ⟨rfl, hb1⟩
      go_wp2_with fail
      refine (FG.out _ hb1).mono ?_
      rintro e w2 ⟨rfl, hb2⟩
      have B2 : Below w.heap.size w w2 := hb1.trans (hb2.mono hb1.size)
      go_wp2_with fail
      refine (GR.out _).mono ?_
      rintro e w3 ⟨rfl, hb3⟩
      go_wp2_with fail
      go_ret
      exact ⟨rfl, B2.trans (hb3.mono B2.size)⟩
    | true =>
      rw [h2] at FG
      by_cases h3 : l.length ≤ 3000
      · have k := bk_of f g a cap a' cap' l w hl hg h3 h1 h2
        by_cases p1 : (foQ true f).length ≤ 20000
        · by_cases p2 : (foQ true g).length ≤ 20000
          · exact back_tt f g a cap a' cap' l w h3 h1 h2 k p1 p2
          · exact back_tf f g a cap a' cap' l w h3 h1 h2 k p1 p2
        · exact back_f f g a cap a' cap' l w h3 h1 h2 k p1
      · have d3 : decide ((3000 : Int) < (l.length : Int)) = true := by simp; omega
        clear hl hg hs h3
        go_enter Tryz.func13, Tryz.ntmps13
        go_wp2_with fail
        refine FF.out.mono ?_
        rintro e w1 ⟨rfl, hb1⟩
        go_wp2_with fail
        refine (FG.out _ hb1).mono ?_
        rintro e w2 ⟨rfl, hb2⟩
        have B2 : Below w.heap.size w w2 := hb1.trans (hb2.mono hb1.size)
        go_wp2_with fail
        refine (GR.out _).mono ?_
        rintro e w3 ⟨rfl, hb3⟩
        go_wp2_with fail
        go_ret
        exact ⟨rfl, B2.trans (hb3.mono B2.size)⟩
end Go.Proofs.YtcgedpfolloinaaGreat

namespace Go.Proofs.YtcgedpfolloinaaGreat
open Go.ChangeShapes Go.WideShapes Go.ChangeAt Go.RowKit Go.Deep

theorem mem_all {H : Type} {P : Program} {e : TypeId} : ∀ {ds : List (DataW H)} {d : DataW H}, d ∈ ds → ∀ n ∈ d.weights P e, n ∈ DataW.weightsAll P e ds
  | d' :: r, d, hd, n, hn => by
    simp only [DataW.weightsAll, List.mem_append]
    rcases List.mem_cons.1 hd with rfl | hd
    · exact .inl hn
    · exact .inr (mem_all hd n hn)
theorem bytesAttr : Tryz.prog.bytesOf 81 = 32 := by kernel_rfl
theorem bytesTree : Tryz.prog.bytesOf 43 = 104 := by kernel_rfl
theorem cellsAttr : Tryz.prog.cellsOf 81 = 2 := by kernel_rfl
theorem cellsHead : Tryz.prog.cellsOf 27 = 6 := by kernel_rfl
theorem cellsTree : Tryz.prog.cellsOf 43 = 7 := by kernel_rfl
theorem cellsNumT : Tryz.prog.cellsOf 25 = 2 := by kernel_rfl
theorem cellsKind : Tryz.prog.cellsOf 22 = 1 := by kernel_rfl
theorem cellsStr : Tryz.prog.cellsOf 9 = 1 := by kernel_rfl
theorem cellsAttrs : Tryz.prog.cellsOf 23 = 1 := by kernel_rfl
theorem cellsTrees : Tryz.prog.cellsOf 28 = 1 := by kernel_rfl
theorem cellsInt : Tryz.prog.cellsOf 3 = 1 := by kernel_rfl
/-- no string, no slice of a datum is larger than memory. -/
def Fits {H : Type} (t : TypeId) (d : DataW H) : Prop := ∀ n ∈ d.weights Tryz.prog t, n ≤ reachBytes
theorem str_list (s : ByteArray) : ∃ l : List UInt8, s = ⟨l.toArray⟩ := ⟨s.data.toList, by cases s; simp⟩
theorem lt_of_cell' {w : World} {b o : Nat} {v : Value} (h : w.cell? ⟨b, o, none⟩ = some v) : b < w.heap.size := by
  by_cases hb : b < w.heap.size
  · exact hb
  · exfalso
    have : w.heap[b]? = none := Array.getElem?_eq_none (by omega)
    unfold World.cell? at h
    simp [this] at h

theorem tfields : ∃ a b, Tryz.prog.underlying 43 = some (.struct #[a, b]) ∧ a.type = 27 ∧ a.offset = 0 ∧ b.type = 28 ∧ b.offset = 6 := ⟨_, _, Tryz.underlying43, rfl, rfl, rfl, rfl⟩
theorem hfields : ∃ a b c d e, Tryz.prog.underlying 27 = some (.struct #[a, b, c, d, e]) ∧ (a.type = 22 ∧ a.offset = 0) ∧ (b.type = 9 ∧ b.offset = 1) ∧ (c.type = 23 ∧ c.offset = 2) ∧ (d.type = 25 ∧ d.offset = 3) ∧ (e.type = 9 ∧ e.offset = 5) :=
  ⟨_, _, _, _, _, Tryz.underlying27, ⟨rfl, rfl⟩, ⟨rfl, rfl⟩, ⟨rfl, rfl⟩, ⟨rfl, rfl⟩, ⟨rfl, rfl⟩⟩
theorem nfields : ∃ a b, Tryz.prog.underlying 25 = some (.struct #[a, b]) ∧ a.type = 3 ∧ a.offset = 0 ∧ b.type = 3 ∧ b.offset = 1 := ⟨_, _, Tryz.underlying25, rfl, rfl, rfl, rfl⟩
theorem afields : ∃ a b, Tryz.prog.underlying 81 = some (.struct #[a, b]) ∧ a.type = 9 ∧ a.offset = 0 ∧ b.type = 9 ∧ b.offset = 1 := ⟨_, _, Tryz.underlying81, rfl, rfl, rfl, rfl⟩

section
variable {H : Type} {enc : TypeId × Value → H} {W : World} {held : Bool}

set_option maxRecDepth 100000 in
theorem attrs_open {fuel : Nat} {v : Value} {x : DataW H × List MemPlace} (h : DataW.trod enc Tryz.prog W 0 (fun _ => true) held fuel 23 [v] = some x) (hf : Fits 23 x.1) : ∃ ats, AttrsLie W v ats := by
  obtain ⟨fa, fb, hu, ta, oa, tb, ob⟩ := afields
  rcases open_slice_pairs Tryz.underlying23 hu cellsAttr oa ob (by rw [ta]; exact cellsStr) (by rw [tb]; exact cellsStr) h with ⟨hcs, hx⟩ | ⟨a, len, cap, m, n, V0, V1, D0, D1, P0, P1, hcs, _, hle, hmax, hm, hx, hi⟩
  · simp at hcs
    subst hcs
    exact ⟨[], .inl ⟨_, _, rfl, rfl⟩⟩
  · simp at hcs
    subst hcs
    simp only [if_true] at hm
    by_cases h0 : len = 0
    · subst h0; exact ⟨[], .inl ⟨_, _, rfl, rfl⟩⟩
    · have hw : (len + (m - len)) * 32 ≤ reachBytes := by
        have := hf ((len + (m - len)) * Tryz.prog.bytesOf 81) (by
          subst hx
          simp only [DataW.weights, Tryz.underlying23]
          simp)
        rwa [bytesAttr] at this
      have hi' : ∀ i, i < len → ∃ x y : List UInt8, W.cell? (a.add (i * 2)) = some (.string ⟨x.toArray⟩) ∧ W.cell? (a.add (i * 2 + 1)) = some (.string ⟨y.toArray⟩) := by
        intro i hl
        obtain ⟨h1, h2, h3, h4⟩ := hi i (by omega)
        rw [ta] at h3
        rw [tb] at h4
        obtain ⟨x, e1, _, _⟩ := DataW.trod_string Tryz.underlying9 h3
        obtain ⟨y, e2, _, _⟩ := DataW.trod_string Tryz.underlying9 h4
        simp only [List.cons.injEq, and_true] at e1 e2
        obtain ⟨x, rfl⟩ := str_list x
        obtain ⟨y, rfl⟩ := str_list y
        exact ⟨x, y, by rw [h1, e1], by rw [h2, e2]⟩
      obtain ⟨b, off, spot⟩ := a
      obtain ⟨x0, y0, c0, _⟩ := hi' 0 (by omega)
      have hspot : spot = none := by simpa [Addr.add] using World.cell?_spot c0
      subst hspot
      have hb : b < W.heap.size := by
        rw [Go.WideShapes.add_plain] at c0
        exact lt_of_cell' c0
      have e : ∀ i, i < len → ∃ q : List UInt8 × List UInt8, W.cell? ⟨b, off + i * 2, none⟩ = some (.string ⟨q.1.toArray⟩) ∧ W.cell? ⟨b, off + i * 2 + 1, none⟩ = some (.string ⟨q.2.toArray⟩) := by
        intro i hl
        obtain ⟨x, y, h1, h2⟩ := hi' i hl
        rw [Go.WideShapes.add_plain] at h1 h2
        exact ⟨(x, y), h1, by rw [Nat.add_assoc]; exact h2⟩
      obtain ⟨q, hq⟩ := choose_lt e
      have hl : ((List.range len).map q).length = len := by simp
      refine ⟨(List.range len).map q, .inr ⟨b, off, cap, by rw [hl], by rw [hl]; exact hle, by rw [hl]; unfold reachBytes at hw; omega, hb, fun k hk => ?_⟩⟩
      have hk' : k < len := by rwa [hl] at hk
      have g : ((List.range len).map q).getD k ([], []) = q k := by
        rw [List.getD_eq_getElem?_getD]; simp [hk']
      rw [g]
      exact hq k hk'

set_option maxRecDepth 100000 in
theorem head_open {fuel : Nat} {cs : List Value} {x : DataW H × List MemPlace} (h : DataW.trod enc Tryz.prog W 0 (fun _ => true) held fuel 27 cs = some x) (hf : Fits 27 x.1) :
    ∃ (hd : Hd) (va : Value), cs = [.int .i64 hd.k, .string ⟨hd.l.toArray⟩, va, .int .i64 hd.n, .int .i64 hd.d, .string ⟨hd.x.toArray⟩] ∧ AttrsLie W va hd.ats := by
  obtain ⟨fa, fb, fc, fd, fe, hu, ⟨ta, oa⟩, ⟨tb, ob⟩, ⟨tc, oc⟩, ⟨td, od⟩, te, oe⟩ := hfields
  obtain ⟨xs, n, _, hx, hlen, hxl, hi⟩ := DataW.trod_struct hu h
  rw [cellsHead] at hlen
  obtain ⟨c0, c1, c2, c3, c4, c5, rfl⟩ : ∃ c0 c1 c2 c3 c4 c5, cs = [c0, c1, c2, c3, c4, c5] := by
    match cs, hlen with
    | [c0, c1, c2, c3, c4, c5], _ => exact ⟨c0, c1, c2, c3, c4, c5, rfl⟩
  obtain ⟨x0, x1, x2, x3, x4, rfl⟩ : ∃ x0 x1 x2 x3 x4, xs = [x0, x1, x2, x3, x4] := by
    match xs, hxl with
    | [x0, x1, x2, x3, x4], _ => exact ⟨x0, x1, x2, x3, x4, rfl⟩
  have i0 := hi 0 fa rfl
  have i1 := hi 1 fb rfl
  have i2 := hi 2 fc rfl
  have i3 := hi 3 fd rfl
  have i4 := hi 4 fe rfl
  rw [ta, oa, cellsKind] at i0
  rw [tb, ob, cellsStr] at i1
  rw [tc, oc, cellsAttrs] at i2
  rw [td, od, cellsNumT] at i3
  rw [te, oe, cellsStr] at i4
  simp at i0 i1 i2 i3 i4
  obtain ⟨k, e0, _, _⟩ := DataW.trod_int Tryz.underlying22 i0
  obtain ⟨l, e1, _, _⟩ := DataW.trod_string Tryz.underlying9 i1
  obtain ⟨t, e4, _, _⟩ := DataW.trod_string Tryz.underlying9 i4
  obtain ⟨ats, ha⟩ := attrs_open i2 (fun m hm => hf m (by
    subst hx
    simp only [DataW.weights, hu]
    refine DataW.weights_mem_each (j := 2) (t := 23) (d := x2.1) (by simp [tc]) (by simp) m hm))
  obtain ⟨na, nb, hun, tna, ona, tnb, onb⟩ := nfields
  obtain ⟨ys, n2, _, _, _, hyl, hj⟩ := DataW.trod_struct hun i3
  obtain ⟨y0, y1, rfl⟩ : ∃ y0 y1, ys = [y0, y1] := by
    match ys, hyl with
    | [y0, y1], _ => exact ⟨y0, y1, rfl⟩
  have j0 := hj 0 na rfl
  have j1 := hj 1 nb rfl
  rw [tna, ona, cellsInt] at j0
  rw [tnb, onb, cellsInt] at j1
  simp at j0 j1
  obtain ⟨n', g0, _, _⟩ := DataW.trod_int Tryz.underlying3 j0
  obtain ⟨d', g1, _, _⟩ := DataW.trod_int Tryz.underlying3 j1
  simp only [List.cons.injEq, and_true] at e0 e1 e4 g0 g1
  obtain ⟨l, rfl⟩ := str_list l
  obtain ⟨t, rfl⟩ := str_list t
  exact ⟨⟨k, l, ats, n', d', t⟩, c2, by rw [e0, e1, e4, g0, g1], ha⟩

def foOf : List (Hd × Fo) → Fo
  | [] => .nil
  | x :: r => .cons x.1 x.2 (foOf r)
theorem foOf_len : ∀ l : List (Hd × Fo), (foOf l).len = l.length
  | [] => rfl
  | x :: r => by simp only [foOf, Fo.len, List.length_cons, foOf_len r]
theorem foOf_row {b : Nat} : ∀ (l : List (Hd × Fo)) (o : Nat), (∀ k (hk : k < l.length), HdAt W (l[k]).1 b (o + k * 7) ∧ ∃ v, W.cell? ⟨b, o + k * 7 + 6, none⟩ = some v ∧ Lies W v (l[k]).2) → RowAt W (foOf l) b o
  | [], _, _ => trivial
  | x :: r, o, hk => by
    have h0 := hk 0 (by simp)
    simp only [Nat.zero_mul, Nat.add_zero, List.getElem_cons_zero] at h0
    refine rowAt_cons.2 ⟨h0.1, h0.2, foOf_row r (o + 7) fun k h => ?_⟩
    have := hk (k + 1) (by simpa using h)
    simp only [List.getElem_cons_succ] at this
    rw [show o + (k + 1) * 7 = o + 7 + k * 7 by omega] at this
    exact this
instance : Inhabited (Hd × Fo) := ⟨(⟨0, [], [], 0, 0, []⟩, .nil)⟩

set_option maxRecDepth 100000 in
theorem trees_open : ∀ (fuel : Nat) {v : Value} {x : DataW H × List MemPlace}, DataW.trod enc Tryz.prog W 0 (fun _ => true) held fuel 28 [v] = some x → Fits 28 x.1 → ∃ f, Lies W v f
  | 0, v, x, h, _ => by simp [DataW.trod] at h
  | 1, v, x, h, hf => by
    rcases DataW.trod_slice Tryz.underlying28 h with ⟨hcs, _⟩ | ⟨a, len, cap, elems, rest, n, hn, hcs, hx, _, hle, hmax, hlen, hel, hsp, _⟩
    · simp at hcs; subst hcs; exact ⟨.nil, .inl ⟨_, _, rfl, rfl⟩⟩
    · simp at hcs
      subst hcs
      obtain rfl : n = 0 := by omega
      cases len with
      | zero => exact ⟨.nil, .inl ⟨_, _, rfl, rfl⟩⟩
      | succ len =>
        have h0 := hel 0 (by omega)
        rw [List.getElem?_eq_getElem (by omega)] at h0
        obtain ⟨cs', _, h2⟩ := Option.bind_eq_some_iff.1 h0
        simp [DataW.trod] at h2
  | fuel + 2, v, x, h, hf => by
    rcases DataW.trod_slice Tryz.underlying28 h with ⟨hcs, _⟩ | ⟨a, len, cap, elems, rest, n, hn, hcs, hx, _, hle, hmax, hlen, hel, hsp, _⟩
    · simp at hcs; subst hcs; exact ⟨.nil, .inl ⟨_, _, rfl, rfl⟩⟩
    · simp at hcs
      subst hcs
      obtain rfl : n = fuel + 1 := by omega
      by_cases h0 : len = 0
      · subst h0; exact ⟨.nil, .inl ⟨_, _, rfl, rfl⟩⟩
      · have hw : (elems.length + rest.length) * 104 ≤ reachBytes := by
          have := hf ((elems.length + rest.length) * Tryz.prog.bytesOf 43) (by
            subst hx
            simp only [DataW.weights, Tryz.underlying28]
            simp)
          rwa [bytesTree] at this
        have hi' : ∀ i, i < len → ∃ q : Hd × Fo, (∃ va, W.cell? (a.add (i * 7)) = some (.int .i64 q.1.k) ∧ W.cell? (a.add (i * 7 + 1)) = some (.string ⟨q.1.l.toArray⟩) ∧ W.cell? (a.add (i * 7 + 2)) = some va ∧ AttrsLie W va q.1.ats ∧
            W.cell? (a.add (i * 7 + 3)) = some (.int .i64 q.1.n) ∧ W.cell? (a.add (i * 7 + 4)) = some (.int .i64 q.1.d) ∧ W.cell? (a.add (i * 7 + 5)) = some (.string ⟨q.1.x.toArray⟩)) ∧ ∃ vk, W.cell? (a.add (i * 7 + 6)) = some vk ∧ Lies W vk q.2 := by
          intro i hl
          have hi := hel i hl
          rw [cellsTree, List.getElem?_eq_getElem (by omega)] at hi
          obtain ⟨cs', hc, ht⟩ := Option.bind_eq_some_iff.1 hi
          obtain ⟨_, hcl, hcc⟩ := World.cells?_some hc
          obtain ⟨fa, fb, hu, ta, oa, tb, ob⟩ := tfields
          obtain ⟨xs, m, hm, hxx, _, hxl, hj⟩ := DataW.trod_struct hu ht
          obtain rfl : m = fuel := by omega
          obtain ⟨x0, x1, rfl⟩ : ∃ x0 x1, xs = [x0, x1] := by
            match xs, hxl with
            | [x0, x1], _ => exact ⟨x0, x1, rfl⟩
          obtain ⟨c0, c1, c2, c3, c4, c5, c6, rfl⟩ : ∃ c0 c1 c2 c3 c4 c5 c6, cs' = [c0, c1, c2, c3, c4, c5, c6] := by
            match cs', hcl with
            | [c0, c1, c2, c3, c4, c5, c6], _ => exact ⟨c0, c1, c2, c3, c4, c5, c6, rfl⟩
          have j0 := hj 0 fa rfl
          have j1 := hj 1 fb rfl
          rw [ta, oa, cellsHead] at j0
          rw [tb, ob, cellsTrees] at j1
          simp at j0 j1
          have hfit : Fits 43 (elems[i]).1 := fun n hn => hf n (by
            subst hx
            simp only [DataW.weights, Tryz.underlying28, List.mem_cons, List.mem_append]
            exact .inr (.inl (mem_all (by simp; exact ⟨_, List.getElem_mem _⟩) n hn)))
          rw [hxx] at hfit
          have hf0 : Fits 27 x0.1 := fun n hn => hfit n (by
            simp only [DataW.weights, hu]
            exact DataW.weights_mem_each (j := 0) (t := 27) (d := x0.1) (by simp [ta]) (by simp) n hn)
          have hf1 : Fits 28 x1.1 := fun n hn => hfit n (by
            simp only [DataW.weights, hu]
            exact DataW.weights_mem_each (j := 1) (t := 28) (d := x1.1) (by simp [tb]) (by simp) n hn)
          obtain ⟨hd, va, e, ha⟩ := head_open j0 hf0
          obtain ⟨ks, hk⟩ := trees_open m j1 hf1
          have g : ∀ k (hk : k < 7) u, [c0, c1, c2, c3, c4, c5, c6][k]? = some u → W.cell? (a.add (i * 7 + k)) = some u := fun k hk u hu => by
            rw [← Go.Deep.add_add]; exact (hcc k hk).trans hu
          simp only [List.cons.injEq, and_true] at e
          obtain ⟨rfl, rfl, rfl, rfl, rfl, rfl⟩ := e
          exact ⟨(hd, ks), ⟨c2, g 0 (by omega) _ rfl, g 1 (by omega) _ rfl, g 2 (by omega) _ rfl, ha, g 3 (by omega) _ rfl, g 4 (by omega) _ rfl, g 5 (by omega) _ rfl⟩, c6, g 6 (by omega) _ rfl, hk⟩
        obtain ⟨b, off, spot⟩ := a
        have hspot : spot = none := by
          obtain ⟨q, ⟨va, c0, _⟩, _⟩ := hi' 0 (by omega)
          simpa [Addr.add] using World.cell?_spot c0
        subst hspot
        obtain ⟨q, hq⟩ := choose_lt hi'
        have hb : b < W.heap.size := by
          obtain ⟨⟨va, c0, _⟩, _⟩ := hq 0 (by omega)
          rw [Go.WideShapes.add_plain] at c0
          exact lt_of_cell' c0
        have hl : (foOf ((List.range len).map q)).len = len := by rw [foOf_len]; simp
        refine ⟨foOf ((List.range len).map q), .inr ⟨b, off, cap, by rw [hl], by rw [hl]; exact hle, by rw [hl]; unfold reachBytes at hw; omega, hb, foOf_row _ off fun k hk => ?_⟩⟩
        have hk' : k < len := by simpa using hk
        obtain ⟨⟨va, c0, c1, c2, ha, c3, c4, c5⟩, vk, c6, hk6⟩ := hq k hk'
        rw [Go.WideShapes.add_plain] at c0 c1 c2 c3 c4 c5 c6
        simp only [List.getElem_map, List.getElem_range]
        exact ⟨⟨c0, by rw [Nat.add_assoc]; exact c1, ⟨va, by rw [Nat.add_assoc]; exact c2, ha⟩, by rw [Nat.add_assoc]; exact c3, by rw [Nat.add_assoc]; exact c4, by rw [Nat.add_assoc]; exact c5⟩, vk, by rw [Nat.add_assoc]; exact c6, hk6⟩
end
end Go.Proofs.YtcgedpfolloinaaGreat
