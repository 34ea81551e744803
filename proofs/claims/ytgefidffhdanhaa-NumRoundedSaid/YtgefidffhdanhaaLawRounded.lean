import Derived.Test.YtgefidffhdanhaaLawCmp
import Derived.Test.YtgefidffhdanhaaMathH
import Derived.Deep.DeepCutAuto
namespace Go.Proofs.Ytgefidffhdanhaa
open Go.RowKit Go.BigFrame

/-- a number that lies at a block of its own, beside the one that came in. -/
structure GapRel (w : World) (an ad : Int) (p : Nat) (x1 x2 : Int) (wc : World) : Prop where
  below : Below w.heap.size w wc
  sp : w.heap.size < p
  pz : p < wc.heap.size
  a0 : wc.cell? ⟨w.heap.size, 0, none⟩ = some (.int .i64 an)
  a1 : wc.cell? ⟨w.heap.size, 1, none⟩ = some (.int .i64 ad)
  x0 : wc.cell? ⟨p, 0, none⟩ = some (.int .i64 x1)
  x1 : wc.cell? ⟨p, 1, none⟩ = some (.int .i64 x2)
  f0 : wc.frozen? ⟨p, 0, none⟩ = false
  f1 : wc.frozen? ⟨p, 1, none⟩ = false

set_option maxRecDepth 100000 in
set_option maxHeartbeats 8000000 in
theorem rounded_x (an ad n f c r : Int) (z : Bool) (P : Nat) (S : List UInt8) (X Y e5 G1 G2 e6 H K1 K2 e7 : Int) (w : World) (ha : chk an ad = 0) (hn : 0 ≤ n) (hn2 : n ≤ 255) (hP : n % 10 = (P : Int)) (hP9 : P ≤ 9)
    (hf : an / ad = f) (hc : ceilM an ad = c) (hr : roundM an ad = r) (R : RndF an ad f c r) (hz : (ad == 1) = z) (hS : decS (roundM (an * p10 P) ad) P = S) (hl : S.length ≤ 100) (hx : parseT S = (X, Y, e5))
    (hE : (e5 != 0) = true → 0 < P ∧ ((e5 == 8) = true ∨ inB f (-1000000000) (-999999999) = true ∨ inB c 999999999 1000000000 = true))
    (hO : (e5 != 0) = false → subT X Y an ad = (G1, G2, e6) ∧ H = (G1.natAbs : Int) ∧ -1000000000 ≤ G1 ∧ G1 ≤ 1000000000 ∧ mulT H G2 2 1 = (K1, K2, e7) ∧ ((e6 != 0) = false → (e7 != 0) = false → chk K1 K2 = 0 ∧ chk 1 (p10 P) = 0 ∧ K1 * p10 P ≤ 1 * K2)) :
    Calls Try.prog 11 #[.agg #[.int .i64 an, .int .i64 ad], .int .u8 n] w fun e w' => e = .returned (.bool true) ∧ Below w.heap.size w w' := by
  have C0 := Lib.hid (fun w => rcheck_any an ad w)
  rw [ha] at C0
  have C1 := Lib.hid (fun w => floorP_any an ad w)
  have C2 := Lib.hid (fun w => ceilP_any an ad w)
  have C3 := Lib.hid (fun w => roundP_any an ad w)
  have C4 := Lib.hid (fun w => whole_any an ad w)
  have C5 := Lib.hid (fun w => decimal_any an ad (P : Int) w)
  have C6 := Lib.hid (fun w => parse_any S w (by omega))
  have W1 : wholeB an ad = z := by rw [← hz]; exact if_pos ha
  rw [wayT_o ha, hf] at C1
  rw [wayT_o ha, hc] at C2
  rw [wayT_o ha, hr] at C3
  rw [ha, W1] at C4
  rw [decE_o ha hP9, hS] at C5
  rw [hx] at C6
  have HE := Lib.hid hE
  have HO := Lib.hid hO
  have HR := Lib.hid R
  have HZ := Lib.hid (R.is.trans hz)
  have fit := fit_of_chk ha
  obtain ⟨a1, a2, a3, a4⟩ := fit
  have fl1 := R.fl.1
  have fl2 := R.fl.2
  have g0 := R.g0
  have g1 := R.g1
  obtain ⟨s1, s2⟩ := p10_bd P hP9
  clear hf hc hr hS hx hE hO R ha W1 hz
  go_enter Try.func11, Try.ntmps11
  go_wp2_with fail
  refine (C0.out _).mono ?_; rintro e w1 ⟨rfl, hb1⟩; obtain ⟨hc1, hf1⟩ := bcell hb1; have hs1 := hb1.size; (try simp at hs1); (try have hz10 : w.heap.size < w1.heap.size := by omega); (try have hz11 : w.heap.size + 1 < w1.heap.size := by omega); (try have hz12 : w.heap.size + 1 + 1 < w1.heap.size := by omega); (try have hz13 : w.heap.size + 1 + 1 + 1 < w1.heap.size := by omega); (try have hz14 : w.heap.size + 1 + 1 + 1 + 1 < w1.heap.size := by omega); (try have hz15 : w.heap.size + 1 + 1 + 1 + 1 + 1 < w1.heap.size := by omega)
  go_wp2_with fail
  refine (C1.out _).mono ?_; rintro e w2 ⟨rfl, hb2⟩; obtain ⟨hc2, hf2⟩ := bcell hb2; have hs2 := hb2.size; (try simp at hs2); (try have hz20 : w.heap.size < w2.heap.size := by omega); (try have hz21 : w.heap.size + 1 < w2.heap.size := by omega); (try have hz22 : w.heap.size + 1 + 1 < w2.heap.size := by omega); (try have hz23 : w.heap.size + 1 + 1 + 1 < w2.heap.size := by omega); (try have hz24 : w.heap.size + 1 + 1 + 1 + 1 < w2.heap.size := by omega); (try have hz25 : w.heap.size + 1 + 1 + 1 + 1 + 1 < w2.heap.size := by omega); (try have hy1_2 : w1.heap.size < w2.heap.size := by omega)
  go_wp2_with fail
  refine (C2.out _).mono ?_; rintro e w3 ⟨rfl, hb3⟩; obtain ⟨hc3, hf3⟩ := bcell hb3; have hs3 := hb3.size; (try simp at hs3); (try have hz30 : w.heap.size < w3.heap.size := by omega); (try have hz31 : w.heap.size + 1 < w3.heap.size := by omega); (try have hz32 : w.heap.size + 1 + 1 < w3.heap.size := by omega); (try have hz33 : w.heap.size + 1 + 1 + 1 < w3.heap.size := by omega); (try have hz34 : w.heap.size + 1 + 1 + 1 + 1 < w3.heap.size := by omega); (try have hz35 : w.heap.size + 1 + 1 + 1 + 1 + 1 < w3.heap.size := by omega); (try have hy1_3 : w1.heap.size < w3.heap.size := by omega); (try have hy2_3 : w2.heap.size < w3.heap.size := by omega)
  go_wp2_with fail
  refine (C3.out _).mono ?_; rintro e w4 ⟨rfl, hb4⟩; obtain ⟨hc4, hf4⟩ := bcell hb4; have hs4 := hb4.size; (try simp at hs4); (try have hz40 : w.heap.size < w4.heap.size := by omega); (try have hz41 : w.heap.size + 1 < w4.heap.size := by omega); (try have hz42 : w.heap.size + 1 + 1 < w4.heap.size := by omega); (try have hz43 : w.heap.size + 1 + 1 + 1 < w4.heap.size := by omega); (try have hz44 : w.heap.size + 1 + 1 + 1 + 1 < w4.heap.size := by omega); (try have hz45 : w.heap.size + 1 + 1 + 1 + 1 + 1 < w4.heap.size := by omega); (try have hy1_4 : w1.heap.size < w4.heap.size := by omega); (try have hy2_4 : w2.heap.size < w4.heap.size := by omega); (try have hy3_4 : w3.heap.size < w4.heap.size := by omega)
  go_wp2_with fail
  refine (C4.out _).mono ?_; rintro e w5 ⟨rfl, hb5⟩; obtain ⟨hc5, hf5⟩ := bcell hb5; have hs5 := hb5.size; (try simp at hs5); (try have hz50 : w.heap.size < w5.heap.size := by omega); (try have hz51 : w.heap.size + 1 < w5.heap.size := by omega); (try have hz52 : w.heap.size + 1 + 1 < w5.heap.size := by omega); (try have hz53 : w.heap.size + 1 + 1 + 1 < w5.heap.size := by omega); (try have hz54 : w.heap.size + 1 + 1 + 1 + 1 < w5.heap.size := by omega); (try have hz55 : w.heap.size + 1 + 1 + 1 + 1 + 1 < w5.heap.size := by omega); (try have hy1_5 : w1.heap.size < w5.heap.size := by omega); (try have hy2_5 : w2.heap.size < w5.heap.size := by omega); (try have hy3_5 : w3.heap.size < w5.heap.size := by omega); (try have hy4_5 : w4.heap.size < w5.heap.size := by omega)
  go_upto_region 8 with fail
  go_cut [6, 8, 10, 12, 96] (fun a b d g s wx => (a = .int .i64 f ∧ b = .int .i64 c ∧ d = .int .i64 r ∧ g = .bool z) ∧ s = .bool false ∧ w5 = wx)
  case first =>
    as_aux_lemma =>
      clear C0 C1 C2 C3 C4 C5 C6 HE HO
      have i1 : inB f (-1000000000) 1000000000 = true := inB_yes ⟨by omega, by omega⟩
      have i2 : inB c f (f + 1) = true := inB_yes HR.out.cf
      have hz := HZ.out
      have cf := HR.out.cf
      have cf1 := cf.1
      have cf2 := cf.2
      have hrc := HR.out.rc
      clear cf
      rcases hrc with h | h
      · have h3 : (r == f) = true := by simpa using h
        clear h
        cases z
        all_goals
          go_wp2_with (go_at_call 64; refine (in_any _ _ _ _).mono ?_; rintro e w1 ⟨rfl, rfl⟩)
          all_goals
            go_meet
            case rel => exact ⟨⟨by simp_all, by simp_all, by simp_all, rfl⟩, by simp_all, rfl⟩
      · have h3 : (r == c) = true := by simpa using h
        clear h
        cases z
        all_goals
          go_wp2_with (go_at_call 64; refine (in_any _ _ _ _).mono ?_; rintro e w1 ⟨rfl, rfl⟩)
          all_goals
            go_meet
            case rel => exact ⟨⟨by simp_all, by simp_all, by simp_all, rfl⟩, by simp_all, rfl⟩
  case rest =>
    obtain ⟨⟨rfl, rfl, rfl, rfl⟩, rfl, rfl⟩ := hcut
    have b1 : -2000000000 ≤ f * ad := by omega
    have b2 : f * ad ≤ 2000000000 := by omega
    go_upto_region 11 with fail
    go_cut [6, 8, 10, 14, 157] (fun a b d t s wx => (a = .int .i64 f ∧ b = .int .i64 c ∧ d = .int .i64 r ∧ ∃ x, t = .int .i64 x) ∧ s = .bool false ∧ w5 = wx)
    case first =>
      as_aux_lemma =>
        clear C0 C1 C2 C3 C4 C5 C6 HE HO
        have q1 := HR.out.lo
        have q2 := HR.out.hi
        have q3 := HR.out.ev
        clear HR
        obtain ⟨g, hg⟩ : ∃ g, an - f * ad = g := ⟨_, rfl⟩
        rw [hg] at q1 q2 q3 g0 g1
        by_cases h1 : 2 * g < ad
        · have h0 := q1 h1
          have h2 : (2 * g == ad) = false := by simp; omega
          have h3 : (r == f) = true := by simpa using h0
          clear q1 q2 q3 h0
          go_wp2_with fail
          all_goals
            go_meet
            case rel => exact ⟨⟨by simp_all, by simp_all, by simp_all, _, rfl⟩, by simp_all, rfl⟩
        · by_cases h2 : ad < 2 * g
          · have h0 := q2 h2
            have h3 : (2 * g == ad) = false := by simp; omega
            have h4 : (r == c) = true := by simpa using h0
            clear q1 q2 q3 h0
            go_wp2_with fail
            all_goals
              go_meet
              case rel => exact ⟨⟨by simp_all, by simp_all, by simp_all, _, rfl⟩, by simp_all, rfl⟩
          · have h3 := q3 (by omega)
            have h4 : (2 * g == ad) = true := by simp; omega
            clear q1 q2 q3
            go_wp2_with fail
            all_goals
              go_meet
              case rel => exact ⟨⟨by simp_all, by simp_all, by simp_all, _, rfl⟩, by simp_all, rfl⟩
    case rest =>
      obtain ⟨⟨rfl, rfl, rfl, g, rfl⟩, rfl, rfl⟩ := hcut
      clear g0 g1 HR
      go_wp2_with fail
      refine (C5.out _).mono ?_; rintro e w6 ⟨rfl, hb6⟩; obtain ⟨hc6, hf6⟩ := bcell hb6; have hs6 := hb6.size; (try simp at hs6); (try have hz60 : w.heap.size < w6.heap.size := by omega); (try have hz61 : w.heap.size + 1 < w6.heap.size := by omega); (try have hz62 : w.heap.size + 1 + 1 < w6.heap.size := by omega); (try have hz63 : w.heap.size + 1 + 1 + 1 < w6.heap.size := by omega); (try have hz64 : w.heap.size + 1 + 1 + 1 + 1 < w6.heap.size := by omega); (try have hz65 : w.heap.size + 1 + 1 + 1 + 1 + 1 < w6.heap.size := by omega); (try have hy1_6 : w1.heap.size < w6.heap.size := by omega); (try have hy2_6 : w2.heap.size < w6.heap.size := by omega); (try have hy3_6 : w3.heap.size < w6.heap.size := by omega); (try have hy4_6 : w4.heap.size < w6.heap.size := by omega); (try have hy5_6 : w5.heap.size < w6.heap.size := by omega)
      go_wp2_with fail
      refine (C6.out _).mono ?_; rintro e w7 ⟨rfl, hb7⟩; obtain ⟨hc7, hf7⟩ := bcell hb7; have hs7 := hb7.size; (try simp at hs7); (try have hz70 : w.heap.size < w7.heap.size := by omega); (try have hz71 : w.heap.size + 1 < w7.heap.size := by omega); (try have hz72 : w.heap.size + 1 + 1 < w7.heap.size := by omega); (try have hz73 : w.heap.size + 1 + 1 + 1 < w7.heap.size := by omega); (try have hz74 : w.heap.size + 1 + 1 + 1 + 1 < w7.heap.size := by omega); (try have hz75 : w.heap.size + 1 + 1 + 1 + 1 + 1 < w7.heap.size := by omega); (try have hy1_7 : w1.heap.size < w7.heap.size := by omega); (try have hy2_7 : w2.heap.size < w7.heap.size := by omega); (try have hy3_7 : w3.heap.size < w7.heap.size := by omega); (try have hy4_7 : w4.heap.size < w7.heap.size := by omega); (try have hy5_7 : w5.heap.size < w7.heap.size := by omega); (try have hy6_7 : w6.heap.size < w7.heap.size := by omega)
      cases he : e5 != 0 with
      | true =>
        as_aux_lemma =>
          obtain ⟨p0, hh⟩ := HE.out he
          clear HE HO C0 C1 C2 C3 C4 C5 C6
          have hp : (0 : Int) < (P : Int) := by omega
          cases z1 : e5 == 8 <;> cases z2 : inB f (-1000000000) (-999999999) <;> cases z3 : inB c 999999999 1000000000
          case false.false.false => rw [z1, z2, z3] at hh; simp at hh
          all_goals
            clear hh
            go_wp2_with (go_at_call 64; refine (in_any _ _ _ _).mono ?_; rintro e w1 ⟨rfl, rfl⟩)
            refine (summed_any _).mono ?_; rintro e w8 ⟨rfl, hb8⟩; obtain ⟨hc8, hf8⟩ := bcell hb8; have hs8 := hb8.size; (try simp at hs8); (try have hz80 : w.heap.size < w8.heap.size := by omega); (try have hz81 : w.heap.size + 1 < w8.heap.size := by omega); (try have hz82 : w.heap.size + 1 + 1 < w8.heap.size := by omega); (try have hz83 : w.heap.size + 1 + 1 + 1 < w8.heap.size := by omega); (try have hz84 : w.heap.size + 1 + 1 + 1 + 1 < w8.heap.size := by omega); (try have hz85 : w.heap.size + 1 + 1 + 1 + 1 + 1 < w8.heap.size := by omega); (try have hy1_8 : w1.heap.size < w8.heap.size := by omega); (try have hy2_8 : w2.heap.size < w8.heap.size := by omega); (try have hy3_8 : w3.heap.size < w8.heap.size := by omega); (try have hy4_8 : w4.heap.size < w8.heap.size := by omega); (try have hy5_8 : w5.heap.size < w8.heap.size := by omega); (try have hy6_8 : w6.heap.size < w8.heap.size := by omega); (try have hy7_8 : w7.heap.size < w8.heap.size := by omega)
            go_wp2
            go_ret
            exact ⟨rfl, by ((repeat' (first | exact Below.refl _ _ | assumption | refine Below.setCell ?_ ?_ _ | refine bdrewN ?_ _ | refine Below.drew ?_ | refine Below.alloc ?_ ?_ _ | refine bbehind ?_ (by assumption) ?_)); all_goals first | (simp; done) | (simp; omega) | omega)⟩
      | false =>
        obtain ⟨h1, h2, h3, h4, h5, h6⟩ := HO.out he
        have D1 := Lib.hid (fun w => sub_res h1 w)
        have D2 := Lib.hid (fun w => mul_res h5 w)
        have D3 := Lib.hid (fun q1 q2 w => cmp_ok (h6 q1 q2).1 (h6 q1 q2).2.1 w)
        have D4 := Lib.hid (fun q1 q2 => cmpM_le0.2 (h6 q1 q2).2.2)
        have D5 := Lib.hid (fun w => cmp_any K1 K2 1 (p10 P) w)
        have HH := Lib.hid h2
        clear h1 h2 h5 h6 HE HO C0 C1 C2 C3 C4 C5 C6
        go_wp2_with fail
        refine (D1.out _).mono ?_; rintro e w8 ⟨rfl, hb8⟩; obtain ⟨hc8, hf8⟩ := bcell hb8; have hs8 := hb8.size; (try simp at hs8); (try have hz80 : w.heap.size < w8.heap.size := by omega); (try have hz81 : w.heap.size + 1 < w8.heap.size := by omega); (try have hz82 : w.heap.size + 1 + 1 < w8.heap.size := by omega); (try have hz83 : w.heap.size + 1 + 1 + 1 < w8.heap.size := by omega); (try have hz84 : w.heap.size + 1 + 1 + 1 + 1 < w8.heap.size := by omega); (try have hz85 : w.heap.size + 1 + 1 + 1 + 1 + 1 < w8.heap.size := by omega); (try have hy1_8 : w1.heap.size < w8.heap.size := by omega); (try have hy2_8 : w2.heap.size < w8.heap.size := by omega); (try have hy3_8 : w3.heap.size < w8.heap.size := by omega); (try have hy4_8 : w4.heap.size < w8.heap.size := by omega); (try have hy5_8 : w5.heap.size < w8.heap.size := by omega); (try have hy6_8 : w6.heap.size < w8.heap.size := by omega); (try have hy7_8 : w7.heap.size < w8.heap.size := by omega)
        go_upto_if 198 with fail
        go_cut [] (fun wx => GapRel w an ad w8.heap.size H G2 wx)
        case first =>
          as_aux_lemma =>
            have o1 : w.heap.size < w8.heap.size := by omega
            by_cases hg : G1 < 0
            · have hH := Lib.hid (show H = -G1 by have := HH.out; omega)
              go_wp2_with fail
              go_meet
              case rel => exact ⟨by ((repeat' (first | exact Below.refl _ _ | assumption | refine Below.setCell ?_ ?_ _ | refine bdrewN ?_ _ | refine Below.drew ?_ | refine Below.alloc ?_ ?_ _ | refine bbehind ?_ (by assumption) ?_)); all_goals first | (simp; done) | (simp; omega) | omega), o1, (by first | assumption | (simp; done) | (simp; omega) | omega), (by simp (maxDischargeDepth := 8) [go_sem, *]), (by simp (maxDischargeDepth := 8) [go_sem, *]), by rw [hH.out]; exact (by simp (maxDischargeDepth := 8) [go_sem, *]), (by simp (maxDischargeDepth := 8) [go_sem, *]), (by simp (maxDischargeDepth := 8) [go_sem, *]), (by simp (maxDischargeDepth := 8) [go_sem, *])⟩
            · have hH := Lib.hid (show H = G1 by have := HH.out; omega)
              go_wp2_with fail
              go_meet
              case rel => exact ⟨by ((repeat' (first | exact Below.refl _ _ | assumption | refine Below.setCell ?_ ?_ _ | refine bdrewN ?_ _ | refine Below.drew ?_ | refine Below.alloc ?_ ?_ _ | refine bbehind ?_ (by assumption) ?_)); all_goals first | (simp; done) | (simp; omega) | omega), o1, (by first | assumption | (simp; done) | (simp; omega) | omega), (by simp (maxDischargeDepth := 8) [go_sem, *]), (by simp (maxDischargeDepth := 8) [go_sem, *]), by rw [hH.out]; exact (by simp (maxDischargeDepth := 8) [go_sem, *]), (by simp (maxDischargeDepth := 8) [go_sem, *]), (by simp (maxDischargeDepth := 8) [go_sem, *]), (by simp (maxDischargeDepth := 8) [go_sem, *])⟩
        case rest =>
          as_aux_lemma =>
            obtain ⟨hb, sp, pz, b0, b1', x0, x1, f0, f1⟩ := hcut
            have o1 : w.heap.size < wc.heap.size := by omega
            clear hb1 hb2 hb3 hb4 hb5 hb6 hb7 hb8 hc1 hc2 hc3 hc4 hc5 hc6 hc7 hc8 hf1 hf2 hf3 hf4 hf5 hf6 hf7 hf8 D1
            go_wp2_with fail
            refine (D2.out _).mono ?_; rintro e w9 ⟨rfl, hb9⟩; obtain ⟨hc9, hf9⟩ := bcell hb9; have hs9 := hb9.size; (try simp at hs9); (try have hz90 : w.heap.size < w9.heap.size := by omega); (try have hz91 : w.heap.size + 1 < w9.heap.size := by omega); (try have hz92 : w.heap.size + 1 + 1 < w9.heap.size := by omega); (try have hz93 : w.heap.size + 1 + 1 + 1 < w9.heap.size := by omega); (try have hz94 : w.heap.size + 1 + 1 + 1 + 1 < w9.heap.size := by omega); (try have hz95 : w.heap.size + 1 + 1 + 1 + 1 + 1 < w9.heap.size := by omega)
            go_wp2_with fail
            go_loop [22, 23] (fun u i => ∃ k : Nat, k ≤ P ∧ i = .int .i64 k ∧ u = .int .i64 (p10 k)) (fun _ i => P - (intOf i).toNat)
            case atStart => exact ⟨0, Nat.zero_le _, rfl, rfl⟩
            case round =>
              obtain ⟨k, hk, rfl, rfl⟩ := hrel
              by_cases hlt : k < P
              · have t1 := p10_bd k (by omega)
                have t2 := p10_bd' k (by omega)
                have HS := Lib.hid (p10_succ k)
                go_wp2
                go_round
                case rel => exact ⟨k + 1, by omega, by go_num, by rw [HS.out, Int.mul_comm]⟩
                case measure => simp [intOf]; omega
              · have hke : k = P := by omega
                subst hke
                cases z1 : e6 != 0 with
                | false =>
                  cases z2 : e7 != 0 with
                  | false =>
                    have E3 := Lib.hid (D3.out z1 z2)
                    have k0 := D4.out z1 z2
                    generalize cmpM (K1 * p10 k) (1 * K2) = kk at *
                    clear D3 D4 D5
                    go_wp2_with fail
                    refine (E3.out _).mono ?_; rintro e w10 ⟨rfl, hb10⟩; obtain ⟨hc10, hf10⟩ := bcell hb10; have hs10 := hb10.size; (try simp at hs10); (try have hz100 : w.heap.size < w10.heap.size := by omega); (try have hz101 : w.heap.size + 1 < w10.heap.size := by omega); (try have hz102 : w.heap.size + 1 + 1 < w10.heap.size := by omega); (try have hz103 : w.heap.size + 1 + 1 + 1 < w10.heap.size := by omega); (try have hz104 : w.heap.size + 1 + 1 + 1 + 1 < w10.heap.size := by omega); (try have hz105 : w.heap.size + 1 + 1 + 1 + 1 + 1 < w10.heap.size := by omega)
                    go_wp2_with fail
                    refine (summed_any _).mono ?_; rintro e w11 ⟨rfl, hb11⟩; obtain ⟨hc11, hf11⟩ := bcell hb11; have hs11 := hb11.size; (try simp at hs11); (try have hz110 : w.heap.size < w11.heap.size := by omega); (try have hz111 : w.heap.size + 1 < w11.heap.size := by omega); (try have hz112 : w.heap.size + 1 + 1 < w11.heap.size := by omega); (try have hz113 : w.heap.size + 1 + 1 + 1 < w11.heap.size := by omega); (try have hz114 : w.heap.size + 1 + 1 + 1 + 1 < w11.heap.size := by omega); (try have hz115 : w.heap.size + 1 + 1 + 1 + 1 + 1 < w11.heap.size := by omega)
                    go_wp2
                    go_ret
                    exact ⟨rfl, by ((repeat' (first | exact Below.refl _ _ | assumption | refine Below.setCell ?_ ?_ _ | refine bdrewN ?_ _ | refine Below.drew ?_ | refine Below.alloc ?_ ?_ _ | refine bbehind ?_ (by assumption) ?_)); all_goals first | (simp; done) | (simp; omega) | omega)⟩
                  | true =>
                    clear D3 D4
                    generalize cmpT K1 K2 1 (p10 k) = tt at *
                    go_wp2_with fail
                    refine (D5.out _).mono ?_; rintro e w10 ⟨rfl, hb10⟩; obtain ⟨hc10, hf10⟩ := bcell hb10; have hs10 := hb10.size; (try simp at hs10); (try have hz100 : w.heap.size < w10.heap.size := by omega); (try have hz101 : w.heap.size + 1 < w10.heap.size := by omega); (try have hz102 : w.heap.size + 1 + 1 < w10.heap.size := by omega); (try have hz103 : w.heap.size + 1 + 1 + 1 < w10.heap.size := by omega); (try have hz104 : w.heap.size + 1 + 1 + 1 + 1 < w10.heap.size := by omega); (try have hz105 : w.heap.size + 1 + 1 + 1 + 1 + 1 < w10.heap.size := by omega)
                    go_wp2_with fail
                    refine (summed_any _).mono ?_; rintro e w11 ⟨rfl, hb11⟩; obtain ⟨hc11, hf11⟩ := bcell hb11; have hs11 := hb11.size; (try simp at hs11); (try have hz110 : w.heap.size < w11.heap.size := by omega); (try have hz111 : w.heap.size + 1 < w11.heap.size := by omega); (try have hz112 : w.heap.size + 1 + 1 < w11.heap.size := by omega); (try have hz113 : w.heap.size + 1 + 1 + 1 < w11.heap.size := by omega); (try have hz114 : w.heap.size + 1 + 1 + 1 + 1 < w11.heap.size := by omega); (try have hz115 : w.heap.size + 1 + 1 + 1 + 1 + 1 < w11.heap.size := by omega)
                    go_wp2
                    go_ret
                    exact ⟨rfl, by ((repeat' (first | exact Below.refl _ _ | assumption | refine Below.setCell ?_ ?_ _ | refine bdrewN ?_ _ | refine Below.drew ?_ | refine Below.alloc ?_ ?_ _ | refine bbehind ?_ (by assumption) ?_)); all_goals first | (simp; done) | (simp; omega) | omega)⟩
                | true =>
                  clear D3 D4
                  generalize cmpT K1 K2 1 (p10 k) = tt at *
                  go_wp2_with fail
                  refine (D5.out _).mono ?_; rintro e w10 ⟨rfl, hb10⟩; obtain ⟨hc10, hf10⟩ := bcell hb10; have hs10 := hb10.size; (try simp at hs10); (try have hz100 : w.heap.size < w10.heap.size := by omega); (try have hz101 : w.heap.size + 1 < w10.heap.size := by omega); (try have hz102 : w.heap.size + 1 + 1 < w10.heap.size := by omega); (try have hz103 : w.heap.size + 1 + 1 + 1 < w10.heap.size := by omega); (try have hz104 : w.heap.size + 1 + 1 + 1 + 1 < w10.heap.size := by omega); (try have hz105 : w.heap.size + 1 + 1 + 1 + 1 + 1 < w10.heap.size := by omega)
                  go_wp2_with fail
                  refine (summed_any _).mono ?_; rintro e w11 ⟨rfl, hb11⟩; obtain ⟨hc11, hf11⟩ := bcell hb11; have hs11 := hb11.size; (try simp at hs11); (try have hz110 : w.heap.size < w11.heap.size := by omega); (try have hz111 : w.heap.size + 1 < w11.heap.size := by omega); (try have hz112 : w.heap.size + 1 + 1 < w11.heap.size := by omega); (try have hz113 : w.heap.size + 1 + 1 + 1 < w11.heap.size := by omega); (try have hz114 : w.heap.size + 1 + 1 + 1 + 1 < w11.heap.size := by omega); (try have hz115 : w.heap.size + 1 + 1 + 1 + 1 + 1 < w11.heap.size := by omega)
                  go_wp2
                  go_ret
                  exact ⟨rfl, by ((repeat' (first | exact Below.refl _ _ | assumption | refine Below.setCell ?_ ?_ _ | refine bdrewN ?_ _ | refine Below.drew ?_ | refine Below.alloc ?_ ?_ _ | refine bbehind ?_ (by assumption) ?_)); all_goals first | (simp; done) | (simp; omega) | omega)⟩
end Go.Proofs.Ytgefidffhdanhaa
