import Derived.Test.YtgefidffhdanhaaRefE
import Derived.Test.YtgefidffhdanhaaRefF
import Derived.Deep.DeepCutAuto
import Derived.IntWalk
namespace Go.Proofs.Ytgefidffhdanhaa
open Go.RowKit Go.BigFrame

/-- the digits before the point, and so many behind it. -/
def nK (f b : List UInt8) (k : Nat) : Int := (valN f : Int) * p10 k + (valN (b.take k) : Int)
theorem nK_zero (f b : List UInt8) : nK f b 0 = (valN f : Int) := by
  unfold nK; rw [p10_zero]; simp [valN]
theorem nK_next (f b : List UInt8) (k : Nat) (h : k < b.length) (hd : isDig b[k] = true) : nK f b (k + 1) = 10 * nK f b k + ((b[k].toNat : Int) - 48) := by
  have hr : 48 ≤ b[k].toNat ∧ b[k].toNat ≤ 57 := by unfold isDig at hd; simpa using hd
  unfold nK
  rw [take_next b k h, valN_snoc, p10_succ]
  have e : (valN f : Int) * (p10 k * 10) = 10 * ((valN f : Int) * p10 k) := by grind
  rw [e]; omega
theorem nK_bd {f b : List UInt8} {k : Nat} (hf : f.all isDig = true) (hf9 : f.length ≤ 9) (hb : (b.take k).all isDig = true) (hk : k ≤ b.length) (hk9 : k ≤ 9) : 0 ≤ nK f b k ∧ nK f b k ≤ 1000000000000000000 := by
  have h1 := valN_bd9 hf hf9
  have h2 := valN_bd9 hb (by simp; omega)
  obtain ⟨p1, p2⟩ := p10_bd k hk9
  have m := mul_bd9 (a := (valN f : Int)) (b := p10 k) (by omega) (by omega) (by omega) (by omega)
  have m0 : 0 ≤ (valN f : Int) * p10 k := Int.mul_nonneg (by omega) (by omega)
  have m1 : (valN f : Int) * p10 k ≤ 999999999 * 1000000000 := by
    have := Int.mul_le_mul (show (valN f : Int) ≤ 999999999 by omega) p2 (by omega) (by omega)
    exact this
  unfold nK
  omega

theorem rdecR_no {f b : List UInt8} {s : Int} (h : ¬ ((countR f 9).2 = true ∧ (digR b 9).2 = true)) : rdecR f b s = (0, 0, 1) := if_neg h
theorem rdecR_yes {f b : List UInt8} {s : Int} (h : (countR f 9).2 = true ∧ (digR b 9).2 = true) : rdecR f b s = lowT (s * nK f b b.length) (p10 b.length) := by
  unfold rdecR nK; rw [if_pos h, List.take_length]

set_option maxRecDepth 100000 in
set_option maxHeartbeats 2000000 in
theorem rparseDecimal_any (f b : List UInt8) (s : Int) (w : World) (hs : s = 1 ∨ s = -1) (hf : f.length ≤ 100000) (hb : b.length ≤ 100000) :
    Calls Try.prog 118 #[.string ⟨f.toArray⟩, .string ⟨b.toArray⟩, .int .i64 s] w fun e w' => e = .returned (.tuple #[.agg #[.int .i64 (rdecR f b s).1, .int .i64 (rdecR f b s).2.1], .int .i64 (rdecR f b s).2.2]) ∧ Below w.heap.size w w' := by
  have CF := Lib.hid (fun w => count_any f 9 w hf (by omega))
  have HS := Lib.hid hs; clear hs
  cases hc : (countR f 9).2 with
  | false =>
    rw [rdecR_no (fun h => by rw [hc] at h; cases h.1)]
    rw [hc] at CF
    clear hc
    go_enter Try.func118, Try.ntmps118
    go_wp2_with fail
    refine (CF.out _).mono ?_; rintro e w' ⟨rfl, rfl⟩
    go_wp2
    refine bodyPost_ret (v := .tuple #[.agg #[.int .i64 0, .int .i64 0], .int .i64 1]) (by simp (maxDischargeDepth := 8) [results, Try.results118, go_sem, *]) rfl ?_
    exact ⟨rfl, by ((repeat' (first | exact Below.refl _ _ | assumption | refine Below.setCell ?_ ?_ _ | refine bdrewN ?_ _ | refine Below.drew ?_ | refine Below.alloc ?_ ?_ _ | refine bbehind ?_ (by assumption) ?_)); all_goals first | (simp; done) | (simp; omega) | omega)⟩
  | true =>
    have k := countR_true hc
    have HC := Lib.hid hc
    rw [countR_yes k] at CF
    have HK := Lib.hid k; clear k hc
    by_cases hin : 1 ≤ b.length ∧ (b.length : Int) ≤ 9
    · have hinb : inB (b.length : Int) 1 9 = true := inB_yes (by omega)
      have hb9 : b.length ≤ 9 := by omega
      have hb1 : 1 ≤ b.length := hin.1
      clear hin
      go_enter Try.func118, Try.ntmps118
      go_wp2_with fail
      refine (CF.out _).mono ?_; rintro e w' ⟨rfl, rfl⟩
      rw [← nK_zero f b]
      go_wp2_with (go_at_call 64; refine (in_any _ _ _ _).mono ?_; rintro e w1 ⟨rfl, rfl⟩)
      go_loop [8, 10] (fun n i => ∃ k : Nat, k ≤ b.length ∧ i = .int .i64 k ∧ n = .int .i64 (nK f b k) ∧ (b.take k).all isDig = true) (fun _ i => b.length - (intOf i).toNat)
      case atStart => exact ⟨0, Nat.zero_le _, rfl, rfl, by simp⟩
      case round =>
        obtain ⟨k, hk, rfl, rfl, ha⟩ := hrel
        have b1 := nK_bd (k := k) HK.out.2 (by have := HK.out.1.1.2; omega) ha hk (by omega)
        by_cases hlt : k < b.length
        · have HT := Lib.hid (take_next b k hlt)
          have HA := Lib.hid ha; clear ha
          have HN := Lib.hid (fun h => nK_next f b k hlt h)
          have HB := Lib.hid (fun h => nK_bd (f := f) (b := b) (k := k + 1) HK.out.2 (by have := HK.out.1.1.2; omega) h (by omega) (by omega))
          obtain ⟨c, hc⟩ : ∃ c, b[k] = c := ⟨_, rfl⟩
          have HX := Lib.hid hc
          have cb : c.toNat < 256 := c.toNat_lt
          cases hd : isDig c with
          | false =>
            have Hno := Lib.hid (rdecR_no (f := f) (b := b) (s := s) (fun h => by
              have := List.all_eq_true.1 (digR_true h.2).2 b[k] (List.getElem_mem _)
              rw [HX.out, hd] at this
              cases this))
            go_wp2_with (go_at_call 131; refine (digit_any _ _).mono ?_; rintro e w1 ⟨rfl, rfl⟩)
            rw [Hno.out]
            refine bodyPost_ret (v := .tuple #[.agg #[.int .i64 0, .int .i64 0], .int .i64 1]) (by simp (maxDischargeDepth := 8) [results, Try.results118, go_sem, *]) rfl ?_
            exact ⟨rfl, by ((repeat' (first | exact Below.refl _ _ | assumption | refine Below.setCell ?_ ?_ _ | refine bdrewN ?_ _ | refine Below.drew ?_ | refine Below.alloc ?_ ?_ _ | refine bbehind ?_ (by assumption) ?_)); all_goals first | (simp; done) | (simp; omega) | omega)⟩
          | true =>
            have hr : 48 ≤ c.toNat ∧ c.toNat ≤ 57 := by unfold isDig at hd; simpa using hd
            have hr1 : (48 : Int) ≤ (c.toNat : Int) := by omega
            have hr2 : (c.toNat : Int) ≤ 57 := by omega
            have Hall := Lib.hid (show (b.take (k + 1)).all isDig = true by
              rw [HT.out, List.all_append, HA.out, HX.out]; simp [hd])
            have Hval := Lib.hid (show nK f b (k + 1) = 10 * nK f b k + ((c.toNat : Int) - 48) by rw [HN.out (by rw [HX.out]; exact hd), HX.out])
            have g := HB.out Hall.out
            rw [Hval.out] at g
            clear hr
            go_wp2_with (go_at_call 131; refine (digit_any _ _).mono ?_; rintro e w1 ⟨rfl, rfl⟩)
            go_round
            case rel => exact ⟨k + 1, by omega, by go_num, by rw [Hval.out], Hall.out⟩
            case measure => simp [intOf]; omega
        · have hke : k = b.length := by omega
          subst hke
          rw [List.take_length] at ha
          have Hyes := Lib.hid (rdecR_yes (f := f) (b := b) (s := s) ⟨HC.out, by rw [digR_yes ⟨⟨hb1, by omega⟩, ha⟩]⟩)
          clear ha
          obtain ⟨p1, p2⟩ := p10_bd b.length hb9
          generalize nK f b b.length = N at *
          have m : -1000000000000000000 ≤ s * N ∧ s * N ≤ 1000000000000000000 := by rcases HS.out with h | h <;> rw [h] <;> omega
          have m1 := m.1
          have m2 := m.2
          have hp0 : ¬ p10 b.length = 0 := by omega
          clear m
          have LT := Lib.hid (fun w => rlow_any (s * N) (p10 b.length) w (by omega) (by omega) (by omega) (by omega) hp0)
          clear hp0
          go_wp2_with fail
          refine (ten_any b.length _ hb9).mono ?_; rintro e w' ⟨rfl, rfl⟩
          go_wp2_with fail
          refine (LT.out _).mono ?_; rintro e w1 ⟨rfl, hb1⟩; obtain ⟨hc1, hf1⟩ := bcell hb1; have hs1 := hb1.size; (try simp at hs1); (try have hz10 : w.heap.size < w1.heap.size := by omega); (try have hz11 : w.heap.size + 1 < w1.heap.size := by omega); (try have hz12 : w.heap.size + 1 + 1 < w1.heap.size := by omega); (try have hz13 : w.heap.size + 1 + 1 + 1 < w1.heap.size := by omega); (try have hz14 : w.heap.size + 1 + 1 + 1 + 1 < w1.heap.size := by omega); (try have hz15 : w.heap.size + 1 + 1 + 1 + 1 + 1 < w1.heap.size := by omega)
          go_wp2
          rw [Hyes.out]
          refine bodyPost_ret (v := .tuple #[.agg #[.int .i64 (lowT (s * N) (p10 b.length)).1, .int .i64 (lowT (s * N) (p10 b.length)).2.1], .int .i64 (lowT (s * N) (p10 b.length)).2.2]) (by simp (maxDischargeDepth := 8) [results, Try.results118, go_sem, *]) rfl ?_
          exact ⟨rfl, by ((repeat' (first | exact Below.refl _ _ | assumption | refine Below.setCell ?_ ?_ _ | refine bdrewN ?_ _ | refine Below.drew ?_ | refine Below.alloc ?_ ?_ _ | refine bbehind ?_ (by assumption) ?_)); all_goals first | (simp; done) | (simp; omega) | omega)⟩
    · have hinb : inB (b.length : Int) 1 9 = false := inB_no (by omega)
      rw [rdecR_no (fun h => hin (digR_true h.2).1)]
      clear hin
      go_enter Try.func118, Try.ntmps118
      go_wp2_with fail
      refine (CF.out _).mono ?_; rintro e w' ⟨rfl, rfl⟩
      go_wp2_with (go_at_call 64; refine (in_any _ _ _ _).mono ?_; rintro e w1 ⟨rfl, rfl⟩)
      refine bodyPost_ret (v := .tuple #[.agg #[.int .i64 0, .int .i64 0], .int .i64 1]) (by simp (maxDischargeDepth := 8) [results, Try.results118, go_sem, *]) rfl ?_
      exact ⟨rfl, by ((repeat' (first | exact Below.refl _ _ | assumption | refine Below.setCell ?_ ?_ _ | refine bdrewN ?_ _ | refine Below.drew ?_ | refine Below.alloc ?_ ?_ _ | refine bbehind ?_ (by assumption) ?_)); all_goals first | (simp; done) | (simp; omega) | omega)⟩
end Go.Proofs.Ytgefidffhdanhaa
