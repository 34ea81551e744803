import Derived.Test.YtgefidffhdanhaaNumP
namespace Go.Proofs.Ytgefidffhdanhaa
open Go.RowKit Go.BigFrame

theorem digR_true {l : List UInt8} {m : Int} (h : (digR l m).2 = true) : (1 ≤ l.length ∧ (l.length : Int) ≤ m) ∧ l.all isDig = true := by
  unfold digR at h
  split at h
  · assumption
  · cases h
theorem digR_false {l : List UInt8} {m : Int} (h : (digR l m).2 = false) : digR l m = (0, false) := by
  unfold digR at h ⊢
  split at h
  · cases h
  · rename_i k; rw [if_neg k]
theorem valN_bd9 {l : List UInt8} (h : l.all isDig = true) (h9 : l.length ≤ 9) : valN l ≤ 999999999 := by
  have h1 := valN_lt l h
  have h2 : (10 : Nat) ^ l.length ≤ 10 ^ 9 := Nat.pow_le_pow_right (by omega) h9
  omega
theorem decR_no {f b : List UInt8} {s : Int} (h : ¬ (((digR f 9).2 = true ∧ (digR b 9).2 = true) ∧ ¬ (1 < f.length ∧ f.getD 0 0 = 48))) : decR f b s = (0, 0, 1) := if_neg h
theorem decR_yes {f b : List UInt8} {s : Int} (h : ((digR f 9).2 = true ∧ (digR b 9).2 = true) ∧ ¬ (1 < f.length ∧ f.getD 0 0 = 48)) : decR f b s = lowT (s * ((valN f : Int) * p10 b.length + (valN b : Int))) (p10 b.length) := if_pos h

set_option maxHeartbeats 2000000 in
theorem parseDecimal_any (f b : List UInt8) (s : Int) (w : World) (hs : s = 1 ∨ s = -1) (hf : f.length ≤ 100000) (hb : b.length ≤ 100000) :
    Calls Try.prog 115 #[.string ⟨f.toArray⟩, .string ⟨b.toArray⟩, .int .i64 s] w fun e w' => e = .returned (.tuple #[.agg #[.int .i64 (decR f b s).1, .int .i64 (decR f b s).2.1], .int .i64 (decR f b s).2.2]) ∧ Below w.heap.size w w' := by
  have hmf : ∀ (fn : Fn) (first cap : Array Value) (w : World), (Instr.makeFunc fn first cap).run Try.prog w = .ok (.func fn first cap) w := fun _ _ _ _ => rfl
  have HS := Lib.hid hs; clear hs
  have D1 := Lib.hid (fun w => digits_any f 9 w hf (by omega))
  have D2 := Lib.hid (fun w => digits_any b 9 w hb (by omega))
  cases h1 : (digR f 9).2 with
  | false =>
    rw [digR_false h1] at D1
    rw [decR_no (by rw [h1]; simp)]
    clear h1
    go_enter Try.func115, Try.ntmps115
    go_wp2_with fail
    refine (D1.out _).mono ?_; rintro e w1 ⟨rfl, hb1⟩; obtain ⟨hc1, hf1⟩ := bcell hb1; have hs1 := hb1.size; (try simp at hs1); (try have hz10 : w.heap.size < w1.heap.size := by omega); (try have hz11 : w.heap.size + 1 < w1.heap.size := by omega); (try have hz12 : w.heap.size + 1 + 1 < w1.heap.size := by omega); (try have hz13 : w.heap.size + 1 + 1 + 1 < w1.heap.size := by omega); (try have hz14 : w.heap.size + 1 + 1 + 1 + 1 < w1.heap.size := by omega); (try have hz15 : w.heap.size + 1 + 1 + 1 + 1 + 1 < w1.heap.size := by omega)
    go_wp2_with fail
    refine (D2.out _).mono ?_; rintro e w2 ⟨rfl, hb2⟩; obtain ⟨hc2, hf2⟩ := bcell hb2; have hs2 := hb2.size; (try simp at hs2); (try have hz20 : w.heap.size < w2.heap.size := by omega); (try have hz21 : w.heap.size + 1 < w2.heap.size := by omega); (try have hz22 : w.heap.size + 1 + 1 < w2.heap.size := by omega); (try have hz23 : w.heap.size + 1 + 1 + 1 < w2.heap.size := by omega); (try have hz24 : w.heap.size + 1 + 1 + 1 + 1 < w2.heap.size := by omega); (try have hz25 : w.heap.size + 1 + 1 + 1 + 1 + 1 < w2.heap.size := by omega)
    go_wp2_with fail
    refine bodyPost_ret (v := .tuple #[.agg #[.int .i64 0, .int .i64 0], .int .i64 1]) (by simp (maxDischargeDepth := 8) [results, Try.results115, go_sem, *]) rfl ?_
    exact ⟨rfl, by ((repeat' (first | exact Below.refl _ _ | assumption | refine Below.setCell ?_ ?_ _ | refine bdrewN ?_ _ | refine Below.drew ?_ | refine Below.alloc ?_ ?_ _ | refine bbehind ?_ (by assumption) ?_)); all_goals first | (simp; done) | (simp; omega) | omega)⟩
  | true =>
    obtain ⟨⟨f1, f2⟩, f3⟩ := digR_true h1
    rw [digR_yes ⟨⟨f1, f2⟩, f3⟩] at D1
    have f4 := valN_bd9 f3 (by omega)
    cases h2 : (digR b 9).2 with
    | false =>
      rw [digR_false h2] at D2
      rw [decR_no (by rw [h2]; simp)]
      clear h1 h2
      go_enter Try.func115, Try.ntmps115
      go_wp2_with fail
      refine (D1.out _).mono ?_; rintro e w1 ⟨rfl, hb1⟩; obtain ⟨hc1, hf1⟩ := bcell hb1; have hs1 := hb1.size; (try simp at hs1); (try have hz10 : w.heap.size < w1.heap.size := by omega); (try have hz11 : w.heap.size + 1 < w1.heap.size := by omega); (try have hz12 : w.heap.size + 1 + 1 < w1.heap.size := by omega); (try have hz13 : w.heap.size + 1 + 1 + 1 < w1.heap.size := by omega); (try have hz14 : w.heap.size + 1 + 1 + 1 + 1 < w1.heap.size := by omega); (try have hz15 : w.heap.size + 1 + 1 + 1 + 1 + 1 < w1.heap.size := by omega)
      go_wp2_with fail
      refine (D2.out _).mono ?_; rintro e w2 ⟨rfl, hb2⟩; obtain ⟨hc2, hf2⟩ := bcell hb2; have hs2 := hb2.size; (try simp at hs2); (try have hz20 : w.heap.size < w2.heap.size := by omega); (try have hz21 : w.heap.size + 1 < w2.heap.size := by omega); (try have hz22 : w.heap.size + 1 + 1 < w2.heap.size := by omega); (try have hz23 : w.heap.size + 1 + 1 + 1 < w2.heap.size := by omega); (try have hz24 : w.heap.size + 1 + 1 + 1 + 1 < w2.heap.size := by omega); (try have hz25 : w.heap.size + 1 + 1 + 1 + 1 + 1 < w2.heap.size := by omega)
      go_wp2_with fail
      refine bodyPost_ret (v := .tuple #[.agg #[.int .i64 0, .int .i64 0], .int .i64 1]) (by simp (maxDischargeDepth := 8) [results, Try.results115, go_sem, *]) rfl ?_
      exact ⟨rfl, by ((repeat' (first | exact Below.refl _ _ | assumption | refine Below.setCell ?_ ?_ _ | refine bdrewN ?_ _ | refine Below.drew ?_ | refine Below.alloc ?_ ?_ _ | refine bbehind ?_ (by assumption) ?_)); all_goals first | (simp; done) | (simp; omega) | omega)⟩
    | true =>
      obtain ⟨⟨b1, b2⟩, b3⟩ := digR_true h2
      rw [digR_yes ⟨⟨b1, b2⟩, b3⟩] at D2
      have b4 := valN_bd9 b3 (by omega)
      obtain ⟨c, t, hft⟩ : ∃ c t, f = c :: t := by cases f with | nil => simp at f1 | cons c t => exact ⟨c, t, rfl⟩
      have e1 : (((c.toNat : Int) == 48) : Bool) = (c == 48) := u8_eq c 48 (by omega)
      by_cases hz : 1 < f.length ∧ f.getD 0 0 = 48
      · rw [decR_no (fun h => h.2 hz)]
        have hz1 : (1 : Int) < (f.length : Int) := by omega
        have hz2 : (((c.toNat : Int) == 48) : Bool) = true := by
          rw [e1]; have := hz.2; rw [hft] at this; simpa using this
        have hfl := hz.1
        clear hz e1 h1 h2
        have H0 := Lib.hid (show f[0]'(by omega) = c by subst hft; rfl)
        clear hft
        obtain ⟨hq, hx⟩ : ∃ hq : 0 < f.length, f[0]'hq = c := ⟨by omega, H0.out⟩
        go_enter Try.func115, Try.ntmps115
        go_wp2_with fail
        refine (D1.out _).mono ?_; rintro e w1 ⟨rfl, hb1⟩; obtain ⟨hc1, hf1⟩ := bcell hb1; have hs1 := hb1.size; (try simp at hs1); (try have hz10 : w.heap.size < w1.heap.size := by omega); (try have hz11 : w.heap.size + 1 < w1.heap.size := by omega); (try have hz12 : w.heap.size + 1 + 1 < w1.heap.size := by omega); (try have hz13 : w.heap.size + 1 + 1 + 1 < w1.heap.size := by omega); (try have hz14 : w.heap.size + 1 + 1 + 1 + 1 < w1.heap.size := by omega); (try have hz15 : w.heap.size + 1 + 1 + 1 + 1 + 1 < w1.heap.size := by omega)
        go_wp2_with fail
        refine (D2.out _).mono ?_; rintro e w2 ⟨rfl, hb2⟩; obtain ⟨hc2, hf2⟩ := bcell hb2; have hs2 := hb2.size; (try simp at hs2); (try have hz20 : w.heap.size < w2.heap.size := by omega); (try have hz21 : w.heap.size + 1 < w2.heap.size := by omega); (try have hz22 : w.heap.size + 1 + 1 < w2.heap.size := by omega); (try have hz23 : w.heap.size + 1 + 1 + 1 < w2.heap.size := by omega); (try have hz24 : w.heap.size + 1 + 1 + 1 + 1 < w2.heap.size := by omega); (try have hz25 : w.heap.size + 1 + 1 + 1 + 1 + 1 < w2.heap.size := by omega)
        go_wp2_with fail
        refine bodyPost_ret (v := .tuple #[.agg #[.int .i64 0, .int .i64 0], .int .i64 1]) (by simp (maxDischargeDepth := 8) [results, Try.results115, go_sem, *]) rfl ?_
        exact ⟨rfl, by ((repeat' (first | exact Below.refl _ _ | assumption | refine Below.setCell ?_ ?_ _ | refine bdrewN ?_ _ | refine Below.drew ?_ | refine Below.alloc ?_ ?_ _ | refine bbehind ?_ (by assumption) ?_)); all_goals first | (simp; done) | (simp; omega) | omega)⟩
      · rw [decR_yes ⟨⟨h1, h2⟩, hz⟩]
        have pb := p10_bd b.length (by omega)
        have D3 := Lib.hid (fun b0 b1' b2' b3' w => bc_pd b0 b1' b2' b3' s (valN f : Int) (p10 b.length) (valN b : Int) w HS.out (by omega) (by omega) pb.1 pb.2 (by omega) (by omega))
        have T1 := Lib.hid (fun w => tenTo_any b.length w (by omega))
        have H0 := Lib.hid (show f[0]'(by omega) = c by subst hft; rfl)
        have Hzz := Lib.hid (show ¬ (1 < f.length ∧ c = 48) by intro h; apply hz; rw [hft]; exact ⟨by rw [hft] at h; exact h.1, h.2⟩)
        clear hft hz
        generalize hL : lowT (s * ((valN f : Int) * p10 b.length + (valN b : Int))) (p10 b.length) = L at *
        have HL := Lib.hid hL; clear hL h1 h2
        by_cases hl1 : 1 < f.length
        · have hl1' : (1 : Int) < (f.length : Int) := by omega
          have hz2 : (((c.toNat : Int) == 48) : Bool) = false := by
            rw [e1]; have := Hzz.out; simp at this; simpa using this hl1
          clear e1
          obtain ⟨hq, hx⟩ : ∃ hq : 0 < f.length, f[0]'hq = c := ⟨by omega, H0.out⟩
          go_enter Try.func115, Try.ntmps115
          go_wp2_with fail
          refine (D1.out _).mono ?_; rintro e w1 ⟨rfl, hb1⟩; obtain ⟨hc1, hf1⟩ := bcell hb1; have hs1 := hb1.size; (try simp at hs1); (try have hz10 : w.heap.size < w1.heap.size := by omega); (try have hz11 : w.heap.size + 1 < w1.heap.size := by omega); (try have hz12 : w.heap.size + 1 + 1 < w1.heap.size := by omega); (try have hz13 : w.heap.size + 1 + 1 + 1 < w1.heap.size := by omega); (try have hz14 : w.heap.size + 1 + 1 + 1 + 1 < w1.heap.size := by omega); (try have hz15 : w.heap.size + 1 + 1 + 1 + 1 + 1 < w1.heap.size := by omega)
          go_wp2_with fail
          refine (D2.out _).mono ?_; rintro e w2 ⟨rfl, hb2⟩; obtain ⟨hc2, hf2⟩ := bcell hb2; have hs2 := hb2.size; (try simp at hs2); (try have hz20 : w.heap.size < w2.heap.size := by omega); (try have hz21 : w.heap.size + 1 < w2.heap.size := by omega); (try have hz22 : w.heap.size + 1 + 1 < w2.heap.size := by omega); (try have hz23 : w.heap.size + 1 + 1 + 1 < w2.heap.size := by omega); (try have hz24 : w.heap.size + 1 + 1 + 1 + 1 < w2.heap.size := by omega); (try have hz25 : w.heap.size + 1 + 1 + 1 + 1 + 1 < w2.heap.size := by omega)
          have hy1 : w1.heap.size < w2.heap.size := by omega
          go_wp2_with fail
          refine (T1.out _).mono ?_
          rintro e w' ⟨rfl, rfl⟩
          go_wp2_with fail
          refine (D3.out _ _ _ _ _ (by simp (maxDischargeDepth := 8) [go_sem, *]) (by simp (maxDischargeDepth := 8) [go_sem, *]) (by simp (maxDischargeDepth := 8) [go_sem, *]) (by simp (maxDischargeDepth := 8) [go_sem, *]) (by first | assumption | (simp; done) | (simp; omega) | omega) (by first | assumption | (simp; done) | (simp; omega) | omega) (by first | assumption | (simp; done) | (simp; omega) | omega) (by first | assumption | (simp; done) | (simp; omega) | omega)).mono ?_
          rintro e w3 ⟨rfl, hb3⟩
          obtain ⟨hc3, hf3⟩ := bcell hb3
          have hs3 := hb3.size
          simp at hs3
          have hz33 : w.heap.size + 1 < w3.heap.size := by omega
          go_wp2
          refine bodyPost_ret (v := .tuple #[.agg #[.int .i64 (L).1, .int .i64 (L).2.1], .int .i64 (L).2.2]) (by simp (maxDischargeDepth := 8) [results, Try.results115, go_sem, *]) rfl ?_
          exact ⟨rfl, by ((repeat' (first | exact Below.refl _ _ | assumption | refine Below.setCell ?_ ?_ _ | refine bdrewN ?_ _ | refine Below.drew ?_ | refine Below.alloc ?_ ?_ _ | refine bbehind ?_ (by assumption) ?_)); all_goals first | (simp; done) | (simp; omega) | omega)⟩
        · have hl1' : ¬ (1 : Int) < (f.length : Int) := by omega
          clear hl1 e1
          obtain ⟨hq, hx⟩ : ∃ hq : 0 < f.length, f[0]'hq = c := ⟨by omega, H0.out⟩
          go_enter Try.func115, Try.ntmps115
          go_wp2_with fail
          refine (D1.out _).mono ?_; rintro e w1 ⟨rfl, hb1⟩; obtain ⟨hc1, hf1⟩ := bcell hb1; have hs1 := hb1.size; (try simp at hs1); (try have hz10 : w.heap.size < w1.heap.size := by omega); (try have hz11 : w.heap.size + 1 < w1.heap.size := by omega); (try have hz12 : w.heap.size + 1 + 1 < w1.heap.size := by omega); (try have hz13 : w.heap.size + 1 + 1 + 1 < w1.heap.size := by omega); (try have hz14 : w.heap.size + 1 + 1 + 1 + 1 < w1.heap.size := by omega); (try have hz15 : w.heap.size + 1 + 1 + 1 + 1 + 1 < w1.heap.size := by omega)
          go_wp2_with fail
          refine (D2.out _).mono ?_; rintro e w2 ⟨rfl, hb2⟩; obtain ⟨hc2, hf2⟩ := bcell hb2; have hs2 := hb2.size; (try simp at hs2); (try have hz20 : w.heap.size < w2.heap.size := by omega); (try have hz21 : w.heap.size + 1 < w2.heap.size := by omega); (try have hz22 : w.heap.size + 1 + 1 < w2.heap.size := by omega); (try have hz23 : w.heap.size + 1 + 1 + 1 < w2.heap.size := by omega); (try have hz24 : w.heap.size + 1 + 1 + 1 + 1 < w2.heap.size := by omega); (try have hz25 : w.heap.size + 1 + 1 + 1 + 1 + 1 < w2.heap.size := by omega)
          have hy1 : w1.heap.size < w2.heap.size := by omega
          go_wp2_with fail
          refine (T1.out _).mono ?_
          rintro e w' ⟨rfl, rfl⟩
          go_wp2_with fail
          refine (D3.out _ _ _ _ _ (by simp (maxDischargeDepth := 8) [go_sem, *]) (by simp (maxDischargeDepth := 8) [go_sem, *]) (by simp (maxDischargeDepth := 8) [go_sem, *]) (by simp (maxDischargeDepth := 8) [go_sem, *]) (by first | assumption | (simp; done) | (simp; omega) | omega) (by first | assumption | (simp; done) | (simp; omega) | omega) (by first | assumption | (simp; done) | (simp; omega) | omega) (by first | assumption | (simp; done) | (simp; omega) | omega)).mono ?_
          rintro e w3 ⟨rfl, hb3⟩
          obtain ⟨hc3, hf3⟩ := bcell hb3
          have hs3 := hb3.size
          simp at hs3
          have hz33 : w.heap.size + 1 < w3.heap.size := by omega
          go_wp2
          refine bodyPost_ret (v := .tuple #[.agg #[.int .i64 (L).1, .int .i64 (L).2.1], .int .i64 (L).2.2]) (by simp (maxDischargeDepth := 8) [results, Try.results115, go_sem, *]) rfl ?_
          exact ⟨rfl, by ((repeat' (first | exact Below.refl _ _ | assumption | refine Below.setCell ?_ ?_ _ | refine bdrewN ?_ _ | refine Below.drew ?_ | refine Below.alloc ?_ ?_ _ | refine bbehind ?_ (by assumption) ?_)); all_goals first | (simp; done) | (simp; omega) | omega)⟩
end Go.Proofs.Ytgefidffhdanhaa
