import Derived.Test.YtgefidffhdanhaaRefG
namespace Go.Proofs.Ytgefidffhdanhaa
open Go.RowKit Go.BigFrame

theorem signed_eq (l : List UInt8) (n : Nat) : signed (isNeg l) n = factorOf l * (n : Int) := by
  unfold signed factorOf
  cases isNeg l <;> simp
theorem factor_is (l : List UInt8) : factorOf l = 1 ∨ factorOf l = -1 := by unfold factorOf; cases isNeg l <;> simp

theorem rparse_point {l : List UInt8} (h : findAt 46 (bodyOf l) < (bodyOf l).length) : rparseT l = rdecR ((bodyOf l).take (findAt 46 (bodyOf l))) ((bodyOf l).drop (findAt 46 (bodyOf l) + 1)) (factorOf l) := if_pos h
theorem rparse_slash {l : List UInt8} (h : ¬ findAt 46 (bodyOf l) < (bodyOf l).length) (k : findAt 47 (bodyOf l) < (bodyOf l).length) :
    rparseT l = rfracR l ((bodyOf l).take (findAt 47 (bodyOf l))) ((bodyOf l).drop (findAt 47 (bodyOf l) + 1)) (factorOf l * (valN ((bodyOf l).take (findAt 47 (bodyOf l))) : Int)) := by
  unfold rparseT; rw [if_neg h, if_pos k, signed_eq]
theorem rparse_whole {l : List UInt8} (h : ¬ findAt 46 (bodyOf l) < (bodyOf l).length) (k : ¬ findAt 47 (bodyOf l) < (bodyOf l).length) :
    rparseT l = rfracR l ((bodyOf l).take (findAt 47 (bodyOf l))) [49] (factorOf l * (valN ((bodyOf l).take (findAt 47 (bodyOf l))) : Int)) := by
  unfold rparseT; rw [if_neg h, if_neg k, signed_eq]

theorem countR_false {l : List UInt8} {m : Int} (h : (countR l m).2 = false) : countR l m = (0, false) := by
  unfold countR at h ⊢
  split at h
  · cases h
  · rename_i k; rw [if_neg k]
theorem count_one : countR [49] 10 = (1, true) := by decide
theorem count_bd {l : List UInt8} (h : (countR l 10).2 = true) : countR l 10 = ((valN l : Int), true) ∧ valN l ≤ 10000000000 := by
  have k := countR_true h
  exact ⟨countR_yes k, valN_bd k.2 (by have := k.1.1.2; omega)⟩

set_option maxRecDepth 100000 in
set_option maxHeartbeats 4000000 in
theorem rparse_any (l : List UInt8) (w : World) (hl : l.length ≤ 100000) :
    Calls Try.prog 59 #[.string ⟨l.toArray⟩] w fun e w' => e = .returned (.tuple #[.agg #[.int .i64 (rparseT l).1, .int .i64 (rparseT l).2.1], .int .i64 (rparseT l).2.2]) ∧ Below w.heap.size w w' := by
  have bl := bodyOf_len l
  have F1 := Lib.hid (fun w => find_any (bodyOf l) 46 46 w rfl (by omega))
  have F2 := Lib.hid (fun w => find_any (bodyOf l) 47 47 w rfl (by omega))
  have PT := Lib.hid (@rparse_point l)
  have PS := Lib.hid (@rparse_slash l)
  have PW := Lib.hid (@rparse_whole l)
  have HF := Lib.hid (factor_is l)
  have HL1 := findAt_le 46 (bodyOf l)
  have HL2 := findAt_le 47 (bodyOf l)
  go_enter Try.func59, Try.ntmps59
  go_upto_region 2 with fail
  go_cut [21] (fun s wx => s = .bool (isNeg l) ∧ wx = w.alloc (.cells #[.int .i64 0, .int .i64 0] 23))
  case first =>
    clear F1 F2 PT PS PW HF HL1 HL2 bl
    cases l with
    | nil =>
      go_wp2_with fail
      go_meet
      case rel => exact ⟨rfl, rfl⟩
    | cons c t =>
      have e1 : (((c.toNat : Int) == 45) : Bool) = (c == 45) := u8_eq c 45 (by omega)
      cases hc : c == 45 with
      | true =>
        have e2 := e1.trans hc
        have HC := Lib.hid (show isNeg (c :: t) = true from hc)
        clear e1 hc
        simp only [List.length_cons] at hl
        go_wp2_with fail
        go_meet
        case rel => exact ⟨by rw [HC.out], rfl⟩
      | false =>
        have e2 := e1.trans hc
        have HC := Lib.hid (show isNeg (c :: t) = false from hc)
        clear e1 hc
        simp only [List.length_cons] at hl
        go_wp2_with fail
        go_meet
        case rel => exact ⟨by rw [HC.out], rfl⟩
  case rest =>
    obtain ⟨rfl, rfl⟩ := hcut
    go_upto_if 21 with fail
    go_cut [4, 5] (fun s t wx => s = .string ⟨(bodyOf l).toArray⟩ ∧ t = .int .i64 (factorOf l) ∧ wx = w.alloc (.cells #[.int .i64 0, .int .i64 0] 23))
    case first =>
      clear F1 F2 PT PS PW HF HL1 HL2 bl
      cases hn : isNeg l with
      | true =>
        have h1 := isNeg_len hn
        have h2 : (1 : Int) ≤ (l.length : Int) := by omega
        have HB := Lib.hid (show bodyOf l = l.drop 1 by unfold bodyOf; rw [hn]; rfl)
        have HF := Lib.hid (show factorOf l = -1 by unfold factorOf; rw [hn]; rfl)
        go_wp2_with fail
        go_meet
        case rel => exact ⟨by rw [HB.out]; simp, by rw [HF.out], rfl⟩
      | false =>
        have HB := Lib.hid (show bodyOf l = l by unfold bodyOf; rw [hn]; rfl)
        have HF := Lib.hid (show factorOf l = 1 by unfold factorOf; rw [hn]; rfl)
        go_wp2_with fail
        go_meet
        case rel => exact ⟨by rw [HB.out], by rw [HF.out], rfl⟩
    case rest =>
      obtain ⟨rfl, rfl, rfl⟩ := hcut
      generalize factorOf l = s at *
      generalize bodyOf l = B at *
      generalize hpt : findAt 46 B = pt at *
      generalize hsl : findAt 47 B = sl at *
      clear hpt hsl
      go_wp2_with fail
      refine (F1.out _).mono ?_; rintro e w' ⟨rfl, rfl⟩
      go_wp2_with fail
      refine (F2.out _).mono ?_; rintro e w' ⟨rfl, rfl⟩
      by_cases hp : pt < B.length
      · have HR := Lib.hid (PT.out hp)
        have D := Lib.hid (fun w => rparseDecimal_any (B.take pt) (B.drop (pt + 1)) s w HF.out (by simp; omega) (by simp; omega))
        generalize rdecR (B.take pt) (B.drop (pt + 1)) s = r at *
        have q1 : IntKind.i64.wrap ((pt : Int) + 1) = (pt : Int) + 1 := IntWalk.i64_in _ (by omega)
        have q2 : (0 : Int) ≤ (pt : Int) + 1 := by omega
        have q3 : ((pt : Int) + 1).toNat = pt + 1 := by omega
        have q4 : (pt : Int) + 1 ≤ (B.length : Int) := by omega
        have q5 : (pt : Int) ≤ (B.length : Int) := by omega
        clear PT PS PW HL2
        go_wp2_with fail
        refine wp_region_quiet_tail (fun w' => ∃ x : Lower _, w' = x.val) 11 (by kernel_rfl) (by kernel_rfl) ⟨⟨_, (Below.refl _ _).drew⟩, rfl⟩ ?_
        simp only [List.take_succ_cons, List.take_zero, List.drop_succ_cons, List.drop_zero]
        repeat (go_big_quiet_step ((go_at_call 118; exact calls_lower _ (D.out _))))
        refine wpQuiet_nil ?_
        intro w1 hx1
        obtain ⟨x1, hx1⟩ := hx1
        have hb1 := x1.prop
        rw [← hx1] at hb1
        clear hx1 x1
        obtain ⟨hc1, hf1⟩ := bcell hb1
        have hs1 := hb1.size
        try simp at hs1
        try have hz0 : w.heap.size < w1.heap.size := by omega
        try have hz1 : w.heap.size + 1 < w1.heap.size := by omega
        try have hz2 : w.heap.size + 1 + 1 < w1.heap.size := by omega
        try have hz3 : w.heap.size + 1 + 1 + 1 < w1.heap.size := by omega
        try have hz4 : w.heap.size + 1 + 1 + 1 + 1 < w1.heap.size := by omega
        try have hz5 : w.heap.size + 1 + 1 + 1 + 1 + 1 < w1.heap.size := by omega
        go_wp2
        rw [HR.out]
        refine bodyPost_ret (v := .tuple #[.agg #[.int .i64 (r).1, .int .i64 (r).2.1], .int .i64 (r).2.2]) (by simp (maxDischargeDepth := 8) [results, Try.results59, go_sem, *]) rfl ?_
        exact ⟨rfl, by ((repeat' (first | exact Below.refl _ _ | assumption | refine Below.setCell ?_ ?_ _ | refine bdrewN ?_ _ | refine Below.drew ?_ | refine Below.alloc ?_ ?_ _ | refine bbehind ?_ (by assumption) ?_)); all_goals first | (simp; done) | (simp; omega) | omega)⟩
      · have C1 := Lib.hid (fun w => count_any (B.take sl) 10 w (by simp; omega) (by omega))
        have C2 := Lib.hid (fun w => count_any (B.drop (sl + 1)) 10 w (by simp; omega) (by omega))
        have K : ∃ G, rparseT l = rfracR l (B.take sl) G (s * (valN (B.take sl) : Int)) ∧ (if sl < B.length then G = B.drop (sl + 1) else G = [49]) := by
          by_cases hs : sl < B.length
          · exact ⟨_, PS.out hp hs, by rw [if_pos hs]⟩
          · exact ⟨_, PW.out hp hs, by rw [if_neg hs]⟩
        obtain ⟨G, hG, hG2⟩ := K
        have HR := Lib.hid hG
        have HG := Lib.hid hG2
        clear hG hG2 PT PS PW F1 F2
        go_wp2_with fail
        refine (C1.out _).mono ?_; rintro e w' ⟨rfl, rfl⟩
        go_upto_if 53 with fail
        go_cut [10, 11] (fun s t wx => s = .int .i64 (countR G 10).1 ∧ t = .bool (countR G 10).2 ∧ wx = w.alloc (.cells #[.int .i64 0, .int .i64 0] 23))
        case first =>
          by_cases hs : sl < B.length
          · have HG1 := Lib.hid (show G = B.drop (sl + 1) by have := HG.out; rw [if_pos hs] at this; exact this)
            have q4 : (sl : Int) + 1 ≤ (B.length : Int) := by omega
            go_wp2_with fail
            refine (C2.out _).mono ?_; rintro e w' ⟨rfl, rfl⟩
            go_wp2_with fail
            go_meet
            case rel => exact ⟨by rw [HG1.out], by rw [HG1.out], rfl⟩
          · have HG1 := Lib.hid (show G = [49] by have := HG.out; rw [if_neg hs] at this; exact this)
            go_wp2_with fail
            go_meet
            case rel => exact ⟨by rw [HG1.out, count_one], by rw [HG1.out, count_one], rfl⟩
        case rest =>
          obtain ⟨rfl, rfl, rfl⟩ := hcut
          generalize B.take sl = F at *
          clear HG C1 C2
          cases h1 : (countR F 10).2 with
          | false =>
            have HN := Lib.hid (HR.out.trans (rfracR_no (by rw [h1]; simp)))
            rw [countR_false h1]
            rcases HF.out with rfl | rfl
            all_goals
              go_wp2
              rw [HN.out]
              refine bodyPost_ret (v := .tuple #[.agg #[.int .i64 0, .int .i64 0], .int .i64 1]) (by simp (maxDischargeDepth := 8) [results, Try.results59, go_sem, *]) rfl ?_
              exact ⟨rfl, by ((repeat' (first | exact Below.refl _ _ | assumption | refine Below.setCell ?_ ?_ _ | refine bdrewN ?_ _ | refine Below.drew ?_ | refine Below.alloc ?_ ?_ _ | refine bbehind ?_ (by assumption) ?_)); all_goals first | (simp; done) | (simp; omega) | omega)⟩
          | true =>
            obtain ⟨c1, f4⟩ := count_bd h1
            rw [c1]
            cases h2 : (countR G 10).2 with
            | false =>
              have HN := Lib.hid (HR.out.trans (rfracR_no (by rw [h2]; simp)))
              rw [countR_false h2]
              clear c1 h1 h2
              have m : -10000000000 ≤ s * (valN F : Int) ∧ s * (valN F : Int) ≤ 10000000000 := by rcases HF.out with h | h <;> rw [h] <;> omega
              have m1 := m.1
              have m2 := m.2
              clear m
              go_wp2
              rw [HN.out]
              refine bodyPost_ret (v := .tuple #[.agg #[.int .i64 0, .int .i64 0], .int .i64 1]) (by simp (maxDischargeDepth := 8) [results, Try.results59, go_sem, *]) rfl ?_
              exact ⟨rfl, by ((repeat' (first | exact Below.refl _ _ | assumption | refine Below.setCell ?_ ?_ _ | refine bdrewN ?_ _ | refine Below.drew ?_ | refine Below.alloc ?_ ?_ _ | refine bbehind ?_ (by assumption) ?_)); all_goals first | (simp; done) | (simp; omega) | omega)⟩
            | true =>
              obtain ⟨c2, f5⟩ := count_bd h2
              rw [c2]
              have m : -10000000000 ≤ s * (valN F : Int) ∧ s * (valN F : Int) ≤ 10000000000 := by rcases HF.out with h | h <;> rw [h] <;> omega
              have m1 := m.1
              have m2 := m.2
              have HY := Lib.hid (fun hc ht => HR.out.trans (rfracR_yes ⟨⟨h1, h2⟩, hc, ht⟩))
              have HN := Lib.hid (fun (hc : ¬ (chk (s * (valN F : Int)) (valN G : Int) = 0 ∧ toldS (s * (valN F : Int)) (valN G : Int) = l)) => HR.out.trans (rfracR_no (fun k => hc k.2)))
              clear m c1 c2 h1 h2 HR
              have hy0 : (0 : Int) ≤ (valN G : Int) := by omega
              generalize hv : s * (valN F : Int) = v at *
              have hv' := Lib.hid hv
              generalize hy : (valN G : Int) = y at *
              clear hy
              generalize hx : (valN F : Int) = x at *
              clear hx hv f4 f5
              have hv2 : s * x = v := hv'.out
              have K := Lib.hid (fun w => rcheck_any v y w)
              by_cases hc : chk v y = 0
              · have T := Lib.hid (fun w => told_any v y w (fit_of_chk hc))
                rw [hc] at K
                by_cases ht : toldS v y = l
                · have HR := Lib.hid (HY.out hc ht)
                  rw [ht] at T
                  have heq2 : (l != l) = false := by simp
                  have heq := (str_ne l l).trans heq2
                  clear hc ht HY HN heq2
                  go_wp2_with fail
                  refine (K.out _).mono ?_; rintro e w1 ⟨rfl, hb1⟩; obtain ⟨hc1, hf1⟩ := bcell hb1; have hs1 := hb1.size; (try simp at hs1); (try have hz10 : w.heap.size < w1.heap.size := by omega); (try have hz11 : w.heap.size + 1 < w1.heap.size := by omega); (try have hz12 : w.heap.size + 1 + 1 < w1.heap.size := by omega); (try have hz13 : w.heap.size + 1 + 1 + 1 < w1.heap.size := by omega); (try have hz14 : w.heap.size + 1 + 1 + 1 + 1 < w1.heap.size := by omega); (try have hz15 : w.heap.size + 1 + 1 + 1 + 1 + 1 < w1.heap.size := by omega)
                  go_wp2_with fail
                  refine (T.out _).mono ?_; rintro e w2 ⟨rfl, hb2⟩; obtain ⟨hc2, hf2⟩ := bcell hb2; have hs2 := hb2.size; (try simp at hs2); (try have hz20 : w.heap.size < w2.heap.size := by omega); (try have hz21 : w.heap.size + 1 < w2.heap.size := by omega); (try have hz22 : w.heap.size + 1 + 1 < w2.heap.size := by omega); (try have hz23 : w.heap.size + 1 + 1 + 1 < w2.heap.size := by omega); (try have hz24 : w.heap.size + 1 + 1 + 1 + 1 < w2.heap.size := by omega); (try have hz25 : w.heap.size + 1 + 1 + 1 + 1 + 1 < w2.heap.size := by omega); (try have hy1_2 : w1.heap.size < w2.heap.size := by omega)
                  go_wp2
                  rw [HR.out]
                  refine bodyPost_ret (v := .tuple #[.agg #[.int .i64 v, .int .i64 y], .int .i64 0]) (by simp (maxDischargeDepth := 8) [results, Try.results59, go_sem, *]) rfl ?_
                  exact ⟨rfl, by ((repeat' (first | exact Below.refl _ _ | assumption | refine Below.setCell ?_ ?_ _ | refine bdrewN ?_ _ | refine Below.drew ?_ | refine Below.alloc ?_ ?_ _ | refine bbehind ?_ (by assumption) ?_)); all_goals first | (simp; done) | (simp; omega) | omega)⟩
                · have HR := Lib.hid (HN.out (fun k => ht k.2))
                  have heq2 : (toldS v y == l) = false := by simpa using ht
                  clear hc ht HY HN
                  generalize toldS v y = z at *
                  go_wp2_with fail
                  refine (K.out _).mono ?_; rintro e w1 ⟨rfl, hb1⟩; obtain ⟨hc1, hf1⟩ := bcell hb1; have hs1 := hb1.size; (try simp at hs1); (try have hz10 : w.heap.size < w1.heap.size := by omega); (try have hz11 : w.heap.size + 1 < w1.heap.size := by omega); (try have hz12 : w.heap.size + 1 + 1 < w1.heap.size := by omega); (try have hz13 : w.heap.size + 1 + 1 + 1 < w1.heap.size := by omega); (try have hz14 : w.heap.size + 1 + 1 + 1 + 1 < w1.heap.size := by omega); (try have hz15 : w.heap.size + 1 + 1 + 1 + 1 + 1 < w1.heap.size := by omega)
                  go_wp2_with fail
                  refine (T.out _).mono ?_; rintro e w2 ⟨rfl, hb2⟩; obtain ⟨hc2, hf2⟩ := bcell hb2; have hs2 := hb2.size; (try simp at hs2); (try have hz20 : w.heap.size < w2.heap.size := by omega); (try have hz21 : w.heap.size + 1 < w2.heap.size := by omega); (try have hz22 : w.heap.size + 1 + 1 < w2.heap.size := by omega); (try have hz23 : w.heap.size + 1 + 1 + 1 < w2.heap.size := by omega); (try have hz24 : w.heap.size + 1 + 1 + 1 + 1 < w2.heap.size := by omega); (try have hz25 : w.heap.size + 1 + 1 + 1 + 1 + 1 < w2.heap.size := by omega); (try have hy1_2 : w1.heap.size < w2.heap.size := by omega)
                  go_wp2
                  rw [HR.out]
                  refine bodyPost_ret (v := .tuple #[.agg #[.int .i64 0, .int .i64 0], .int .i64 1]) (by simp (maxDischargeDepth := 8) [results, Try.results59, go_sem, *]) rfl ?_
                  exact ⟨rfl, by ((repeat' (first | exact Below.refl _ _ | assumption | refine Below.setCell ?_ ?_ _ | refine bdrewN ?_ _ | refine Below.drew ?_ | refine Below.alloc ?_ ?_ _ | refine bbehind ?_ (by assumption) ?_)); all_goals first | (simp; done) | (simp; omega) | omega)⟩
              · have HR := Lib.hid (HN.out (fun k => hc k.1))
                have hc' : (chk v y != 0) = true := by simpa using hc
                clear hc HY HN
                go_wp2_with fail
                refine (K.out _).mono ?_; rintro e w1 ⟨rfl, hb1⟩; obtain ⟨hc1, hf1⟩ := bcell hb1; have hs1 := hb1.size; (try simp at hs1); (try have hz10 : w.heap.size < w1.heap.size := by omega); (try have hz11 : w.heap.size + 1 < w1.heap.size := by omega); (try have hz12 : w.heap.size + 1 + 1 < w1.heap.size := by omega); (try have hz13 : w.heap.size + 1 + 1 + 1 < w1.heap.size := by omega); (try have hz14 : w.heap.size + 1 + 1 + 1 + 1 < w1.heap.size := by omega); (try have hz15 : w.heap.size + 1 + 1 + 1 + 1 + 1 < w1.heap.size := by omega)
                go_wp2
                rw [HR.out]
                refine bodyPost_ret (v := .tuple #[.agg #[.int .i64 0, .int .i64 0], .int .i64 1]) (by simp (maxDischargeDepth := 8) [results, Try.results59, go_sem, *]) rfl ?_
                exact ⟨rfl, by ((repeat' (first | exact Below.refl _ _ | assumption | refine Below.setCell ?_ ?_ _ | refine bdrewN ?_ _ | refine Below.drew ?_ | refine Below.alloc ?_ ?_ _ | refine bbehind ?_ (by assumption) ?_)); all_goals first | (simp; done) | (simp; omega) | omega)⟩
end Go.Proofs.Ytgefidffhdanhaa
