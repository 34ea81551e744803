import Derived.Test.YtgefidffhdanhaaLawCmp
import Derived.Deep.DeepCutAuto
namespace Go.Proofs.Ytgefidffhdanhaa
open Go.RowKit Go.BigFrame

structure OrdRel (w : World) (an ad bn bd cn cd : Int) (p q : Nat) (x1 x2 y1 y2 : Int) (wc : World) : Prop where
  below : Below w.heap.size w wc
  sp : w.heap.size + 1 + 1 < p
  pq : p < q
  qz : q < wc.heap.size
  a0 : wc.cell? ⟨w.heap.size, 0, none⟩ = some (.int .i64 an)
  a1 : wc.cell? ⟨w.heap.size, 1, none⟩ = some (.int .i64 ad)
  b0 : wc.cell? ⟨w.heap.size + 1, 0, none⟩ = some (.int .i64 bn)
  b1 : wc.cell? ⟨w.heap.size + 1, 1, none⟩ = some (.int .i64 bd)
  c0 : wc.cell? ⟨w.heap.size + 1 + 1, 0, none⟩ = some (.int .i64 cn)
  c1 : wc.cell? ⟨w.heap.size + 1 + 1, 1, none⟩ = some (.int .i64 cd)
  x0 : wc.cell? ⟨p, 0, none⟩ = some (.int .i64 x1)
  x1 : wc.cell? ⟨p, 1, none⟩ = some (.int .i64 x2)
  y0 : wc.cell? ⟨q, 0, none⟩ = some (.int .i64 y1)
  y1 : wc.cell? ⟨q, 1, none⟩ = some (.int .i64 y2)
  f0 : wc.frozen? ⟨p, 0, none⟩ = false
  f1 : wc.frozen? ⟨p, 1, none⟩ = false
  g0 : wc.frozen? ⟨q, 0, none⟩ = false
  g1 : wc.frozen? ⟨q, 1, none⟩ = false

theorem ord_less {w : World} {an ad bn bd cn cd : Int} {p q : Nat} {x1 x2 y1 y2 : Int} {wc : World} (h : OrdRel w an ad bn bd cn cd p q x1 x2 y1 y2 wc) :
    w.heap.size < wc.heap.size ∧ w.heap.size + 1 < wc.heap.size ∧ w.heap.size + 1 + 1 < wc.heap.size ∧ p < wc.heap.size ∧ ¬ w.heap.size = p ∧ ¬ w.heap.size + 1 = p ∧ ¬ w.heap.size + 1 + 1 = p ∧ ¬ w.heap.size = q ∧ ¬ w.heap.size + 1 = q ∧ ¬ w.heap.size + 1 + 1 = q ∧ ¬ p = q := by
  have := h.sp; have := h.pq; have := h.qz
  omega

set_option maxRecDepth 100000 in
set_option maxHeartbeats 8000000 in
theorem order_x (an ad bn bd cn cd k n l x1 x2 ex y1 y2 ey u1 u2 eu v1 v2 ev : Int) (w : World) (ha : chk an ad = 0) (hb : chk bn bd = 0) (hc : chk cn cd = 0)
    (hk : cmpM (an * bd) (bn * ad) = k) (hm : cmpM (bn * ad) (an * bd) = -k) (hn : cmpM (bn * cd) (cn * bd) = n) (hl : cmpM (an * cd) (cn * ad) = l) (hkn : k = n ∧ l = k ∨ (k == n) = false)
    (heq : (k == 0) = true ∧ (an == bn) = true ∧ (ad == bd) = true ∨ (k == 0) = false ∧ (an == bn) = false ∨ (k == 0) = false ∧ (ad == bd) = false)
    (hx : addT an ad cn cd = (x1, x2, ex)) (hy : addT bn bd cn cd = (y1, y2, ey)) (hxy : (ex == 0) = true → (ey == 0) = true → chk x1 x2 = 0 ∧ chk y1 y2 = 0 ∧ cmpM (x1 * y2) (y1 * x2) = k)
    (hu : mulT an ad cn cd = (u1, u2, eu)) (hv : mulT bn bd cn cd = (v1, v2, ev)) (huv : (eu == 0) = true → (ev == 0) = true → 0 < cn → chk u1 u2 = 0 ∧ chk v1 v2 = 0 ∧ cmpM (u1 * v2) (v1 * u2) = k) :
    Calls Try.prog 10 #[.agg #[.int .i64 an, .int .i64 ad], .agg #[.int .i64 bn, .int .i64 bd], .agg #[.int .i64 cn, .int .i64 cd]] w fun e w' => e = .returned (.bool true) ∧ Below w.heap.size w w' := by
  have C1 := Lib.hid (fun w => cmp_res ha hb hk w)
  have C2 := Lib.hid (fun w => cmp_res hb ha hm w)
  have C3 := Lib.hid (fun w => cmp_res hb hc hn w)
  have C4 := Lib.hid (fun w => cmp_res ha hc hl w)
  have C5 := Lib.hid (fun h1 h2 w => cmp_res (hxy h1 h2).1 (hxy h1 h2).2.1 (hxy h1 h2).2.2 w)
  have C6 := Lib.hid (fun h1 h2 h3 w => cmp_res (huv h1 h2 h3).1 (huv h1 h2 h3).2.1 (huv h1 h2 h3).2.2 w)
  have C7 := Lib.hid (fun w => cmp_res (chk_neg ha) (chk_neg hb) (neg_cmp.trans hm) w)
  have A1 := Lib.hid (fun w => add_res hx w)
  have A2 := Lib.hid (fun w => add_res hy w)
  have M1 := Lib.hid (fun w => mul_res hu w)
  have M2 := Lib.hid (fun w => mul_res hv w)
  have N1 := Lib.hid (fun w => neg_res ha w)
  have N2 := Lib.hid (fun w => neg_res hb w)
  have hin : inB k (-1) 1 = true := inB_yes ⟨by rw [← hk]; exact cmpM_lo _ _, by rw [← hk]; exact cmpM_hi _ _⟩
  have HKN := Lib.hid hkn
  obtain ⟨B, hB⟩ : ∃ B : Bool, B = (((eu == 0) && (ev == 0)) && decide (0 < cn)) := ⟨_, rfl⟩
  have HB := Lib.hid hB
  clear hB
  have HEQ := Lib.hid heq
  have ka := fit_of_chk ha
  have kb := fit_of_chk hb
  obtain ⟨ka1, ka2, ka3, ka4⟩ := ka
  obtain ⟨kb1, kb2, kb3, kb4⟩ := kb
  have kk := inB_of hin
  have kk1 := kk.1
  have kk2 := kk.2
  clear hk hm hn hl hkn heq hx hy hxy hu hv huv kk
  go_enter Try.func10, Try.ntmps10
  go_wp2_with fail
  refine (fit_ok _ _ _ _ _ _ _ ha hb hc).mono ?_; rintro e w1 ⟨rfl, hb1⟩; obtain ⟨hc1, hf1⟩ := bcell hb1; have hs1 := hb1.size; (try simp at hs1); (try have hz10 : w.heap.size < w1.heap.size := by omega); (try have hz11 : w.heap.size + 1 < w1.heap.size := by omega); (try have hz12 : w.heap.size + 1 + 1 < w1.heap.size := by omega); (try have hz13 : w.heap.size + 1 + 1 + 1 < w1.heap.size := by omega); (try have hz14 : w.heap.size + 1 + 1 + 1 + 1 < w1.heap.size := by omega); (try have hz15 : w.heap.size + 1 + 1 + 1 + 1 + 1 < w1.heap.size := by omega)
  go_wp2_with fail
  refine (C1.out _).mono ?_; rintro e w2 ⟨rfl, hb2⟩; obtain ⟨hc2, hf2⟩ := bcell hb2; have hs2 := hb2.size; (try simp at hs2); (try have hz20 : w.heap.size < w2.heap.size := by omega); (try have hz21 : w.heap.size + 1 < w2.heap.size := by omega); (try have hz22 : w.heap.size + 1 + 1 < w2.heap.size := by omega); (try have hz23 : w.heap.size + 1 + 1 + 1 < w2.heap.size := by omega); (try have hz24 : w.heap.size + 1 + 1 + 1 + 1 < w2.heap.size := by omega); (try have hz25 : w.heap.size + 1 + 1 + 1 + 1 + 1 < w2.heap.size := by omega); (try have hy1_2 : w1.heap.size < w2.heap.size := by omega)
  go_wp2_with fail
  refine (C2.out _).mono ?_; rintro e w3 ⟨rfl, hb3⟩; obtain ⟨hc3, hf3⟩ := bcell hb3; have hs3 := hb3.size; (try simp at hs3); (try have hz30 : w.heap.size < w3.heap.size := by omega); (try have hz31 : w.heap.size + 1 < w3.heap.size := by omega); (try have hz32 : w.heap.size + 1 + 1 < w3.heap.size := by omega); (try have hz33 : w.heap.size + 1 + 1 + 1 < w3.heap.size := by omega); (try have hz34 : w.heap.size + 1 + 1 + 1 + 1 < w3.heap.size := by omega); (try have hz35 : w.heap.size + 1 + 1 + 1 + 1 + 1 < w3.heap.size := by omega); (try have hy1_3 : w1.heap.size < w3.heap.size := by omega); (try have hy2_3 : w2.heap.size < w3.heap.size := by omega)
  go_wp2_with fail
  refine (C3.out _).mono ?_; rintro e w4 ⟨rfl, hb4⟩; obtain ⟨hc4, hf4⟩ := bcell hb4; have hs4 := hb4.size; (try simp at hs4); (try have hz40 : w.heap.size < w4.heap.size := by omega); (try have hz41 : w.heap.size + 1 < w4.heap.size := by omega); (try have hz42 : w.heap.size + 1 + 1 < w4.heap.size := by omega); (try have hz43 : w.heap.size + 1 + 1 + 1 < w4.heap.size := by omega); (try have hz44 : w.heap.size + 1 + 1 + 1 + 1 < w4.heap.size := by omega); (try have hz45 : w.heap.size + 1 + 1 + 1 + 1 + 1 < w4.heap.size := by omega); (try have hy1_4 : w1.heap.size < w4.heap.size := by omega); (try have hy2_4 : w2.heap.size < w4.heap.size := by omega); (try have hy3_4 : w3.heap.size < w4.heap.size := by omega)
  go_wp2_with fail
  refine (C4.out _).mono ?_; rintro e w5 ⟨rfl, hb5⟩; obtain ⟨hc5, hf5⟩ := bcell hb5; have hs5 := hb5.size; (try simp at hs5); (try have hz50 : w.heap.size < w5.heap.size := by omega); (try have hz51 : w.heap.size + 1 < w5.heap.size := by omega); (try have hz52 : w.heap.size + 1 + 1 < w5.heap.size := by omega); (try have hz53 : w.heap.size + 1 + 1 + 1 < w5.heap.size := by omega); (try have hz54 : w.heap.size + 1 + 1 + 1 + 1 < w5.heap.size := by omega); (try have hz55 : w.heap.size + 1 + 1 + 1 + 1 + 1 < w5.heap.size := by omega); (try have hy1_5 : w1.heap.size < w5.heap.size := by omega); (try have hy2_5 : w2.heap.size < w5.heap.size := by omega); (try have hy3_5 : w3.heap.size < w5.heap.size := by omega); (try have hy4_5 : w4.heap.size < w5.heap.size := by omega)
  clear ha hb hc
  go_upto_region 7 with fail
  go_cut [97] (fun s wx => s = .bool false ∧ w5 = wx)
  case first =>
    as_aux_lemma =>
      clear C1 C2 C3 C4 C5 C6 C7 A1 A2 M1 M2 N1 N2
      have hkn := HKN.out
      have heq := HEQ.out
      clear HKN HEQ
      rcases hkn with ⟨rfl, rfl⟩ | h <;> rcases heq with ⟨z1, z2, z3⟩ | ⟨z1, z2⟩ | ⟨z1, z2⟩
      all_goals
        go_wp2_with (go_at_call 64; refine (in_any _ _ _ _).mono ?_; rintro e w1 ⟨rfl, rfl⟩)
        go_meet
        case rel => exact ⟨rfl, rfl⟩
  case rest =>
    as_aux_lemma =>
      obtain ⟨rfl, rfl⟩ := hcut
      go_wp2_with fail
      refine (A1.out _).mono ?_; rintro e w6 ⟨rfl, hb6⟩; obtain ⟨hc6, hf6⟩ := bcell hb6; have hs6 := hb6.size; (try simp at hs6); (try have hz60 : w.heap.size < w6.heap.size := by omega); (try have hz61 : w.heap.size + 1 < w6.heap.size := by omega); (try have hz62 : w.heap.size + 1 + 1 < w6.heap.size := by omega); (try have hz63 : w.heap.size + 1 + 1 + 1 < w6.heap.size := by omega); (try have hz64 : w.heap.size + 1 + 1 + 1 + 1 < w6.heap.size := by omega); (try have hz65 : w.heap.size + 1 + 1 + 1 + 1 + 1 < w6.heap.size := by omega); (try have hy1_6 : w1.heap.size < w6.heap.size := by omega); (try have hy2_6 : w2.heap.size < w6.heap.size := by omega); (try have hy3_6 : w3.heap.size < w6.heap.size := by omega); (try have hy4_6 : w4.heap.size < w6.heap.size := by omega); (try have hy5_6 : w5.heap.size < w6.heap.size := by omega)
      go_wp2_with fail
      refine (A2.out _).mono ?_; rintro e w7 ⟨rfl, hb7⟩; obtain ⟨hc7, hf7⟩ := bcell hb7; have hs7 := hb7.size; (try simp at hs7); (try have hz70 : w.heap.size < w7.heap.size := by omega); (try have hz71 : w.heap.size + 1 < w7.heap.size := by omega); (try have hz72 : w.heap.size + 1 + 1 < w7.heap.size := by omega); (try have hz73 : w.heap.size + 1 + 1 + 1 < w7.heap.size := by omega); (try have hz74 : w.heap.size + 1 + 1 + 1 + 1 < w7.heap.size := by omega); (try have hz75 : w.heap.size + 1 + 1 + 1 + 1 + 1 < w7.heap.size := by omega); (try have hy1_7 : w1.heap.size < w7.heap.size := by omega); (try have hy2_7 : w2.heap.size < w7.heap.size := by omega); (try have hy3_7 : w3.heap.size < w7.heap.size := by omega); (try have hy4_7 : w4.heap.size < w7.heap.size := by omega); (try have hy5_7 : w5.heap.size < w7.heap.size := by omega); (try have hy6_7 : w6.heap.size < w7.heap.size := by omega)
      go_upto_region 11 with fail
      go_cut [115] (fun s wx => s = .bool ((ex == 0) && (ey == 0)) ∧ w7.alloc (.cells #[.int .i64 y1, .int .i64 y2] 23) = wx)
      case first =>
        as_aux_lemma =>
          clear C1 C2 C3 C4 C5 C6 C7 A1 A2 M1 M2 N1 N2
          cases z1 : ex == 0 <;> cases z2 : ey == 0
          all_goals
            go_wp2_with fail
            go_meet
            case rel => exact ⟨by simp [*], rfl⟩
      case rest =>
        as_aux_lemma =>
          obtain ⟨rfl, rfl⟩ := hcut
          have o1 : w.heap.size + 1 + 1 < w6.heap.size := by omega
          have o2 : w6.heap.size < w7.heap.size := by omega
          have hR : OrdRel w an ad bn bd cn cd w6.heap.size w7.heap.size x1 x2 y1 y2 (w7.alloc (.cells #[.int .i64 y1, .int .i64 y2] 23)) := ⟨by ((repeat' (first | exact Below.refl _ _ | assumption | refine Below.setCell ?_ ?_ _ | refine bdrewN ?_ _ | refine Below.drew ?_ | refine Below.alloc ?_ ?_ _ | refine bbehind ?_ (by assumption) ?_)); all_goals first | (simp; done) | (simp; omega) | omega), o1, o2, (by first | assumption | (simp; done) | (simp; omega) | omega), (by simp (maxDischargeDepth := 8) [go_sem, *]), (by simp (maxDischargeDepth := 8) [go_sem, *]), (by simp (maxDischargeDepth := 8) [go_sem, *]), (by simp (maxDischargeDepth := 8) [go_sem, *]), (by simp (maxDischargeDepth := 8) [go_sem, *]), (by simp (maxDischargeDepth := 8) [go_sem, *]), (by simp (maxDischargeDepth := 8) [go_sem, *]), (by simp (maxDischargeDepth := 8) [go_sem, *]), (by simp (maxDischargeDepth := 8) [go_sem, *]), (by simp (maxDischargeDepth := 8) [go_sem, *]), (by simp (maxDischargeDepth := 8) [go_sem, *]), (by simp (maxDischargeDepth := 8) [go_sem, *]), (by simp (maxDischargeDepth := 8) [go_sem, *]), (by simp (maxDischargeDepth := 8) [go_sem, *])⟩
          go_upto_if 115 with fail
          go_cut [] (fun wx => OrdRel w an ad bn bd cn cd w6.heap.size w7.heap.size x1 x2 y1 y2 wx)
          case first =>
            as_aux_lemma =>
              have HR := Lib.hid hR
              obtain ⟨L0, L1, L2, L3, L4, L5, L6, L7, L8, L9, L10⟩ := ord_less hR
              obtain ⟨hb, sp, pq, qz, a0, a1, b0, b1, c0, c1, x0, x1', y0, y1', f0, f1, g0, g1⟩ := hR
              cases z1 : ex == 0 <;> cases z2 : ey == 0
              case true.true =>
                go_wp2_with fail
                refine (C5.out z1 z2 _).mono ?_; rintro e w8 ⟨rfl, hb8⟩; obtain ⟨hc8, hf8⟩ := bcell hb8; have hs8 := hb8.size; (try simp at hs8); (try have hz80 : w.heap.size < w8.heap.size := by omega); (try have hz81 : w.heap.size + 1 < w8.heap.size := by omega); (try have hz82 : w.heap.size + 1 + 1 < w8.heap.size := by omega); (try have hz83 : w.heap.size + 1 + 1 + 1 < w8.heap.size := by omega); (try have hz84 : w.heap.size + 1 + 1 + 1 + 1 < w8.heap.size := by omega); (try have hz85 : w.heap.size + 1 + 1 + 1 + 1 + 1 < w8.heap.size := by omega)
                go_wp2_with fail
                go_meet
                case rel => exact ⟨by ((repeat' (first | exact Below.refl _ _ | assumption | refine Below.setCell ?_ ?_ _ | refine bdrewN ?_ _ | refine Below.drew ?_ | refine Below.alloc ?_ ?_ _ | refine bbehind ?_ (by assumption) ?_)); all_goals first | (simp; done) | (simp; omega) | omega), (by first | assumption | (simp; done) | (simp; omega) | omega), (by first | assumption | (simp; done) | (simp; omega) | omega), (by first | assumption | (simp; done) | (simp; omega) | omega), (by simp (maxDischargeDepth := 8) [go_sem, *]), (by simp (maxDischargeDepth := 8) [go_sem, *]), (by simp (maxDischargeDepth := 8) [go_sem, *]), (by simp (maxDischargeDepth := 8) [go_sem, *]), (by simp (maxDischargeDepth := 8) [go_sem, *]), (by simp (maxDischargeDepth := 8) [go_sem, *]), (by simp (maxDischargeDepth := 8) [go_sem, *]), (by simp (maxDischargeDepth := 8) [go_sem, *]), (by simp (maxDischargeDepth := 8) [go_sem, *]), (by simp (maxDischargeDepth := 8) [go_sem, *]), (by simp (maxDischargeDepth := 8) [go_sem, *]), (by simp (maxDischargeDepth := 8) [go_sem, *]), (by simp (maxDischargeDepth := 8) [go_sem, *]), (by simp (maxDischargeDepth := 8) [go_sem, *])⟩
              all_goals
                go_wp2_with fail
                go_meet
                case rel => exact HR.out
          case rest =>
            as_aux_lemma =>
              have hR := hcut
              obtain ⟨L0, L1, L2, L3, L4, L5, L6, L7, L8, L9, L10⟩ := ord_less hR
              obtain ⟨hb, sp, pq, qz, a0, a1, b0, b1, c0, c1, x0, x1', y0, y1', f0, f1, g0, g1⟩ := hR
              clear hcut
              go_wp2_with fail
              refine (M1.out _).mono ?_; rintro e w8 ⟨rfl, hb8⟩; obtain ⟨hc8, hf8⟩ := bcell hb8; have hs8 := hb8.size; (try simp at hs8); (try have hz80 : w.heap.size < w8.heap.size := by omega); (try have hz81 : w.heap.size + 1 < w8.heap.size := by omega); (try have hz82 : w.heap.size + 1 + 1 < w8.heap.size := by omega); (try have hz83 : w.heap.size + 1 + 1 + 1 < w8.heap.size := by omega); (try have hz84 : w.heap.size + 1 + 1 + 1 + 1 < w8.heap.size := by omega); (try have hz85 : w.heap.size + 1 + 1 + 1 + 1 + 1 < w8.heap.size := by omega); (try have hy1_8 : w1.heap.size < w8.heap.size := by omega); (try have hy2_8 : w2.heap.size < w8.heap.size := by omega); (try have hy3_8 : w3.heap.size < w8.heap.size := by omega); (try have hy4_8 : w4.heap.size < w8.heap.size := by omega); (try have hy5_8 : w5.heap.size < w8.heap.size := by omega); (try have hy6_8 : w6.heap.size < w8.heap.size := by omega); (try have hy7_8 : w7.heap.size < w8.heap.size := by omega)
              go_wp2_with fail
              refine (M2.out _).mono ?_; rintro e w9 ⟨rfl, hb9⟩; obtain ⟨hc9, hf9⟩ := bcell hb9; have hs9 := hb9.size; (try simp at hs9); (try have hz90 : w.heap.size < w9.heap.size := by omega); (try have hz91 : w.heap.size + 1 < w9.heap.size := by omega); (try have hz92 : w.heap.size + 1 + 1 < w9.heap.size := by omega); (try have hz93 : w.heap.size + 1 + 1 + 1 < w9.heap.size := by omega); (try have hz94 : w.heap.size + 1 + 1 + 1 + 1 < w9.heap.size := by omega); (try have hz95 : w.heap.size + 1 + 1 + 1 + 1 + 1 < w9.heap.size := by omega); (try have hy1_9 : w1.heap.size < w9.heap.size := by omega); (try have hy2_9 : w2.heap.size < w9.heap.size := by omega); (try have hy3_9 : w3.heap.size < w9.heap.size := by omega); (try have hy4_9 : w4.heap.size < w9.heap.size := by omega); (try have hy5_9 : w5.heap.size < w9.heap.size := by omega); (try have hy6_9 : w6.heap.size < w9.heap.size := by omega); (try have hy7_9 : w7.heap.size < w9.heap.size := by omega); (try have hy8_9 : w8.heap.size < w9.heap.size := by omega)
              go_upto_region 17 with fail
              go_cut [151] (fun s wx => s = .bool B ∧ (w9.setCell ⟨w7.heap.size, 0, none⟩ (.int .i64 v1)).setCell ⟨w7.heap.size, 1, none⟩ (.int .i64 v2) = wx)
              case first =>
                as_aux_lemma =>
                  clear C1 C2 C3 C4 C5 C6 C7 A1 A2 M1 M2 N1 N2
                  cases z1 : eu == 0 <;> cases z2 : ev == 0
                  all_goals
                    go_wp2_with fail
                    go_meet
                    case rel => exact ⟨by rw [HB.out]; simp [*], rfl⟩
              case rest =>
                as_aux_lemma =>
                  obtain ⟨rfl, rfl⟩ := hcut
                  have hR : OrdRel w an ad bn bd cn cd w6.heap.size w7.heap.size u1 u2 v1 v2 ((w9.setCell ⟨w7.heap.size, 0, none⟩ (.int .i64 v1)).setCell ⟨w7.heap.size, 1, none⟩ (.int .i64 v2)) := ⟨by ((repeat' (first | exact Below.refl _ _ | assumption | refine Below.setCell ?_ ?_ _ | refine bdrewN ?_ _ | refine Below.drew ?_ | refine Below.alloc ?_ ?_ _ | refine bbehind ?_ (by assumption) ?_)); all_goals first | (simp; done) | (simp; omega) | omega), (by first | assumption | (simp; done) | (simp; omega) | omega), (by first | assumption | (simp; done) | (simp; omega) | omega), (by first | assumption | (simp; done) | (simp; omega) | omega), (by simp (maxDischargeDepth := 8) [go_sem, *]), (by simp (maxDischargeDepth := 8) [go_sem, *]), (by simp (maxDischargeDepth := 8) [go_sem, *]), (by simp (maxDischargeDepth := 8) [go_sem, *]), (by simp (maxDischargeDepth := 8) [go_sem, *]), (by simp (maxDischargeDepth := 8) [go_sem, *]), (by simp (maxDischargeDepth := 8) [go_sem, *]), (by simp (maxDischargeDepth := 8) [go_sem, *]), (by simp (maxDischargeDepth := 8) [go_sem, *]), (by simp (maxDischargeDepth := 8) [go_sem, *]), (by simp (maxDischargeDepth := 8) [go_sem, *]), (by simp (maxDischargeDepth := 8) [go_sem, *]), (by simp (maxDischargeDepth := 8) [go_sem, *]), (by simp (maxDischargeDepth := 8) [go_sem, *])⟩
                  clear x0 x1' y0 y1' f0 f1 g0 g1 L0 L1 L2 L3 L4 L5 L6 L7 L8 L9 L10 a0 a1 b0 b1 c0 c1
                  go_upto_if 151 with fail
                  go_cut [] (fun wx => OrdRel w an ad bn bd cn cd w6.heap.size w7.heap.size u1 u2 v1 v2 wx)
                  case first =>
                    as_aux_lemma =>
                      have HR := Lib.hid hR
                      obtain ⟨L0, L1, L2, L3, L4, L5, L6, L7, L8, L9, L10⟩ := ord_less hR
                      obtain ⟨hb, sp, pq, qz, a0, a1, b0, b1, c0, c1, x0, x1', y0, y1', f0, f1, g0, g1⟩ := hR
                      cases hBB : B with
                      | true =>
                        have hz := HB.out
                        rw [hBB] at hz
                        have hz' := hz.symm
                        simp only [Bool.and_eq_true, decide_eq_true_eq] at hz'
                        have D := Lib.hid (C6.out hz'.1.1 hz'.1.2 hz'.2)
                        clear hz hz' hBB
                        go_wp2_with fail
                        refine (D.out _).mono ?_; rintro e w10 ⟨rfl, hb10⟩; obtain ⟨hc10, hf10⟩ := bcell hb10; have hs10 := hb10.size; (try simp at hs10); (try have hz100 : w.heap.size < w10.heap.size := by omega); (try have hz101 : w.heap.size + 1 < w10.heap.size := by omega); (try have hz102 : w.heap.size + 1 + 1 < w10.heap.size := by omega); (try have hz103 : w.heap.size + 1 + 1 + 1 < w10.heap.size := by omega); (try have hz104 : w.heap.size + 1 + 1 + 1 + 1 < w10.heap.size := by omega); (try have hz105 : w.heap.size + 1 + 1 + 1 + 1 + 1 < w10.heap.size := by omega)
                        go_wp2_with fail
                        go_meet
                        case rel => exact ⟨by ((repeat' (first | exact Below.refl _ _ | assumption | refine Below.setCell ?_ ?_ _ | refine bdrewN ?_ _ | refine Below.drew ?_ | refine Below.alloc ?_ ?_ _ | refine bbehind ?_ (by assumption) ?_)); all_goals first | (simp; done) | (simp; omega) | omega), (by first | assumption | (simp; done) | (simp; omega) | omega), (by first | assumption | (simp; done) | (simp; omega) | omega), (by first | assumption | (simp; done) | (simp; omega) | omega), (by simp (maxDischargeDepth := 8) [go_sem, *]), (by simp (maxDischargeDepth := 8) [go_sem, *]), (by simp (maxDischargeDepth := 8) [go_sem, *]), (by simp (maxDischargeDepth := 8) [go_sem, *]), (by simp (maxDischargeDepth := 8) [go_sem, *]), (by simp (maxDischargeDepth := 8) [go_sem, *]), (by simp (maxDischargeDepth := 8) [go_sem, *]), (by simp (maxDischargeDepth := 8) [go_sem, *]), (by simp (maxDischargeDepth := 8) [go_sem, *]), (by simp (maxDischargeDepth := 8) [go_sem, *]), (by simp (maxDischargeDepth := 8) [go_sem, *]), (by simp (maxDischargeDepth := 8) [go_sem, *]), (by simp (maxDischargeDepth := 8) [go_sem, *]), (by simp (maxDischargeDepth := 8) [go_sem, *])⟩
                      | false =>
                        clear hBB
                        go_wp2_with fail
                        go_meet
                        case rel => exact HR.out
                  case rest =>
                    as_aux_lemma =>
                      have hR := hcut
                      obtain ⟨L0, L1, L2, L3, L4, L5, L6, L7, L8, L9, L10⟩ := ord_less hR
                      obtain ⟨hb, sp, pq, qz, a0, a1, b0, b1, c0, c1, x0, x1', y0, y1', f0, f1, g0, g1⟩ := hR
                      clear hcut
                      go_wp2_with fail
                      refine (N1.out _).mono ?_; rintro e w10 ⟨rfl, hb10⟩; obtain ⟨hc10, hf10⟩ := bcell hb10; have hs10 := hb10.size; (try simp at hs10); (try have hz100 : w.heap.size < w10.heap.size := by omega); (try have hz101 : w.heap.size + 1 < w10.heap.size := by omega); (try have hz102 : w.heap.size + 1 + 1 < w10.heap.size := by omega); (try have hz103 : w.heap.size + 1 + 1 + 1 < w10.heap.size := by omega); (try have hz104 : w.heap.size + 1 + 1 + 1 + 1 < w10.heap.size := by omega); (try have hz105 : w.heap.size + 1 + 1 + 1 + 1 + 1 < w10.heap.size := by omega); (try have hy1_10 : w1.heap.size < w10.heap.size := by omega); (try have hy2_10 : w2.heap.size < w10.heap.size := by omega); (try have hy3_10 : w3.heap.size < w10.heap.size := by omega); (try have hy4_10 : w4.heap.size < w10.heap.size := by omega); (try have hy5_10 : w5.heap.size < w10.heap.size := by omega); (try have hy6_10 : w6.heap.size < w10.heap.size := by omega); (try have hy7_10 : w7.heap.size < w10.heap.size := by omega); (try have hy8_10 : w8.heap.size < w10.heap.size := by omega); (try have hy9_10 : w9.heap.size < w10.heap.size := by omega)
                      go_wp2_with fail
                      refine (N2.out _).mono ?_; rintro e w11 ⟨rfl, hb11⟩; obtain ⟨hc11, hf11⟩ := bcell hb11; have hs11 := hb11.size; (try simp at hs11); (try have hz110 : w.heap.size < w11.heap.size := by omega); (try have hz111 : w.heap.size + 1 < w11.heap.size := by omega); (try have hz112 : w.heap.size + 1 + 1 < w11.heap.size := by omega); (try have hz113 : w.heap.size + 1 + 1 + 1 < w11.heap.size := by omega); (try have hz114 : w.heap.size + 1 + 1 + 1 + 1 < w11.heap.size := by omega); (try have hz115 : w.heap.size + 1 + 1 + 1 + 1 + 1 < w11.heap.size := by omega); (try have hy1_11 : w1.heap.size < w11.heap.size := by omega); (try have hy2_11 : w2.heap.size < w11.heap.size := by omega); (try have hy3_11 : w3.heap.size < w11.heap.size := by omega); (try have hy4_11 : w4.heap.size < w11.heap.size := by omega); (try have hy5_11 : w5.heap.size < w11.heap.size := by omega); (try have hy6_11 : w6.heap.size < w11.heap.size := by omega); (try have hy7_11 : w7.heap.size < w11.heap.size := by omega); (try have hy8_11 : w8.heap.size < w11.heap.size := by omega); (try have hy9_11 : w9.heap.size < w11.heap.size := by omega); (try have hy10_11 : w10.heap.size < w11.heap.size := by omega)
                      go_wp2_with fail
                      refine (C7.out _).mono ?_; rintro e w12 ⟨rfl, hb12⟩; obtain ⟨hc12, hf12⟩ := bcell hb12; have hs12 := hb12.size; (try simp at hs12); (try have hz120 : w.heap.size < w12.heap.size := by omega); (try have hz121 : w.heap.size + 1 < w12.heap.size := by omega); (try have hz122 : w.heap.size + 1 + 1 < w12.heap.size := by omega); (try have hz123 : w.heap.size + 1 + 1 + 1 < w12.heap.size := by omega); (try have hz124 : w.heap.size + 1 + 1 + 1 + 1 < w12.heap.size := by omega); (try have hz125 : w.heap.size + 1 + 1 + 1 + 1 + 1 < w12.heap.size := by omega); (try have hy1_12 : w1.heap.size < w12.heap.size := by omega); (try have hy2_12 : w2.heap.size < w12.heap.size := by omega); (try have hy3_12 : w3.heap.size < w12.heap.size := by omega); (try have hy4_12 : w4.heap.size < w12.heap.size := by omega); (try have hy5_12 : w5.heap.size < w12.heap.size := by omega); (try have hy6_12 : w6.heap.size < w12.heap.size := by omega); (try have hy7_12 : w7.heap.size < w12.heap.size := by omega); (try have hy8_12 : w8.heap.size < w12.heap.size := by omega); (try have hy9_12 : w9.heap.size < w12.heap.size := by omega); (try have hy10_12 : w10.heap.size < w12.heap.size := by omega); (try have hy11_12 : w11.heap.size < w12.heap.size := by omega)
                      go_wp2_with fail
                      refine (summed_any _).mono ?_; rintro e w13 ⟨rfl, hb13⟩; obtain ⟨hc13, hf13⟩ := bcell hb13; have hs13 := hb13.size; (try simp at hs13); (try have hz130 : w.heap.size < w13.heap.size := by omega); (try have hz131 : w.heap.size + 1 < w13.heap.size := by omega); (try have hz132 : w.heap.size + 1 + 1 < w13.heap.size := by omega); (try have hz133 : w.heap.size + 1 + 1 + 1 < w13.heap.size := by omega); (try have hz134 : w.heap.size + 1 + 1 + 1 + 1 < w13.heap.size := by omega); (try have hz135 : w.heap.size + 1 + 1 + 1 + 1 + 1 < w13.heap.size := by omega); (try have hy1_13 : w1.heap.size < w13.heap.size := by omega); (try have hy2_13 : w2.heap.size < w13.heap.size := by omega); (try have hy3_13 : w3.heap.size < w13.heap.size := by omega); (try have hy4_13 : w4.heap.size < w13.heap.size := by omega); (try have hy5_13 : w5.heap.size < w13.heap.size := by omega); (try have hy6_13 : w6.heap.size < w13.heap.size := by omega); (try have hy7_13 : w7.heap.size < w13.heap.size := by omega); (try have hy8_13 : w8.heap.size < w13.heap.size := by omega); (try have hy9_13 : w9.heap.size < w13.heap.size := by omega); (try have hy10_13 : w10.heap.size < w13.heap.size := by omega); (try have hy11_13 : w11.heap.size < w13.heap.size := by omega); (try have hy12_13 : w12.heap.size < w13.heap.size := by omega)
                      go_wp2
                      go_ret
                      exact ⟨rfl, by ((repeat' (first | exact Below.refl _ _ | assumption | refine Below.setCell ?_ ?_ _ | refine bdrewN ?_ _ | refine Below.drew ?_ | refine Below.alloc ?_ ?_ _ | refine bbehind ?_ (by assumption) ?_)); all_goals first | (simp; done) | (simp; omega) | omega)⟩

set_option maxRecDepth 100000 in
theorem order_any (an ad bn bd cn cd : Int) (w : World) :
    Calls Try.prog 10 #[.agg #[.int .i64 an, .int .i64 ad], .agg #[.int .i64 bn, .int .i64 bd], .agg #[.int .i64 cn, .int .i64 cd]] w fun e w' => e = .returned (.bool true) ∧ Below w.heap.size w w' := by
  by_cases h : chk an ad = 0 ∧ chk bn bd = 0 ∧ chk cn cd = 0
  · obtain ⟨ha, hb, hc⟩ := h
    have pa := den_pos ha
    have pb := den_pos hb
    have pc := den_pos hc
    refine order_x an ad bn bd cn cd _ _ _ _ _ _ _ _ _ _ _ _ _ _ _ w ha hb hc rfl (cmpM_neg _ _) rfl rfl ?_ ?_ (pair3 _) (pair3 _) ?_ (pair3 _) (pair3 _) ?_
    · by_cases h : cmpM (an * bd) (bn * ad) = cmpM (bn * cd) (cn * bd)
      · exact .inl ⟨h, cmp_trans pa pb pc h⟩
      · exact .inr (by simpa using h)
    · by_cases h : an = bn ∧ ad = bd
      · obtain ⟨rfl, rfl⟩ := h
        exact .inl ⟨by simp [cmpM], by simp, by simp⟩
      · have h0 : ¬ cmpM (an * bd) (bn * ad) = 0 := fun k => h (same_of_cross ha hb (cmpM_zero.1 k))
        by_cases h1 : an = bn
        · exact .inr (.inr ⟨by simpa using h0, by simp; exact fun k => h ⟨h1, k⟩⟩)
        · exact .inr (.inl ⟨by simpa using h0, by simpa using h1⟩)
    · intro z1 z2
      rcases add_is ha hc with ⟨x, y, hx, gx, ex⟩ | ⟨hx, -⟩
      · rcases add_is hb hc with ⟨u, v, hu, gu, eu⟩ | ⟨hu, -⟩
        · rw [hx, hu]
          exact ⟨gx, gu, add_cmp pa pb pc (den_pos gx) (den_pos gu) ex eu⟩
        · rw [hu] at z2; cases z2
      · rw [hx] at z1; cases z1
    · intro z1 z2 h0
      rcases mul_is ha hc with ⟨x, y, hx, gx, ex⟩ | ⟨hx, -⟩
      · rcases mul_is hb hc with ⟨u, v, hu, gu, eu⟩ | ⟨hu, -⟩
        · rw [hx, hu]
          exact ⟨gx, gu, mul_cmp pa pb pc (den_pos gx) (den_pos gu) h0 ex eu⟩
        · rw [hu] at z2; cases z2
      · rw [hx] at z1; cases z1
  · go_enter Try.func10, Try.ntmps10
    go_wp2_with fail
    refine (fit_no _ _ _ _ _ _ _ h).mono ?_; rintro e w1 ⟨rfl, hb1⟩; obtain ⟨hc1, hf1⟩ := bcell hb1; have hs1 := hb1.size; (try simp at hs1); (try have hz10 : w.heap.size < w1.heap.size := by omega); (try have hz11 : w.heap.size + 1 < w1.heap.size := by omega); (try have hz12 : w.heap.size + 1 + 1 < w1.heap.size := by omega); (try have hz13 : w.heap.size + 1 + 1 + 1 < w1.heap.size := by omega); (try have hz14 : w.heap.size + 1 + 1 + 1 + 1 < w1.heap.size := by omega); (try have hz15 : w.heap.size + 1 + 1 + 1 + 1 + 1 < w1.heap.size := by omega)
    go_wp2_with fail
    refine (summed_any _).mono ?_; rintro e w2 ⟨rfl, hb2⟩; obtain ⟨hc2, hf2⟩ := bcell hb2; have hs2 := hb2.size; (try simp at hs2); (try have hz20 : w.heap.size < w2.heap.size := by omega); (try have hz21 : w.heap.size + 1 < w2.heap.size := by omega); (try have hz22 : w.heap.size + 1 + 1 < w2.heap.size := by omega); (try have hz23 : w.heap.size + 1 + 1 + 1 < w2.heap.size := by omega); (try have hz24 : w.heap.size + 1 + 1 + 1 + 1 < w2.heap.size := by omega); (try have hz25 : w.heap.size + 1 + 1 + 1 + 1 + 1 < w2.heap.size := by omega); (try have hy1_2 : w1.heap.size < w2.heap.size := by omega)
    go_wp2
    go_ret
    exact ⟨rfl, by ((repeat' (first | exact Below.refl _ _ | assumption | refine Below.setCell ?_ ?_ _ | refine bdrewN ?_ _ | refine Below.drew ?_ | refine Below.alloc ?_ ?_ _ | refine bbehind ?_ (by assumption) ?_)); all_goals first | (simp; done) | (simp; omega) | omega)⟩
end Go.Proofs.Ytgefidffhdanhaa
