import Derived.Test.YtgefidffhdanhaaLawA
import Derived.Test.YtgefidffhdanhaaNumX
import Derived.Deep.DeepCutAuto
namespace Go.Proofs.Ytgefidffhdanhaa
open Go.RowKit Go.BigFrame

theorem quo_ge1 (k : Nat) : ∀ x y : Int, y.toNat ≤ k → y < x → Tail1 (quo x y) := by
  induction k with
  | zero => intro x y hk hlt t ht; rw [quo_zero (by omega)] at ht; simp at ht
  | succ k ih =>
    intro x y hk hlt t ht
    by_cases hy : 0 < y
    · rw [quo_pos hy] at ht
      have e2 := Int.emod_nonneg x (show y ≠ 0 by omega)
      have e3 := Int.emod_lt_of_pos x hy
      rcases List.mem_cons.1 ht with rfl | ht
      · rw [Int.le_ediv_iff_mul_le hy]; omega
      · exact ih y (x % y) (by omega) e3 t ht
    · rw [quo_zero hy] at ht; simp at ht
theorem quo_last (k : Nat) : ∀ x y : Int, y.toNat ≤ k → 0 < y → y < x → (quo x y).getLastD 0 ≠ 1 := by
  induction k with
  | zero => intro x y hk hy; omega
  | succ k ih =>
    intro x y hk hy hlt
    have e1 := Int.mul_ediv_add_emod x y
    have e2 := Int.emod_nonneg x (show y ≠ 0 by omega)
    have e3 := Int.emod_lt_of_pos x hy
    rw [quo_pos hy]
    by_cases h0 : 0 < x % y
    · have := ih y (x % y) (by omega) h0 e3
      rw [quo_pos h0] at this ⊢
      simpa using this
    · rw [quo_zero h0]
      show x / y ≠ 1
      intro h
      rw [h] at e1
      omega

theorem of_quo {n d : Int} (hc : chk n d = 0) : ofT (quo n d) = (n, d, 0) := by
  have pd := den_pos hc
  have f := fit_of_chk hc
  have e2 := Int.emod_nonneg n (show d ≠ 0 by omega)
  have e3 := Int.emod_lt_of_pos n pd
  have hl := quo_len (n := n) f.dhi
  have h0 : ¬ ((quo n d).length = 0 ∨ 50 < (quo n d).length) := by
    have : (quo n d).length ≠ 0 := by rw [quo_pos pd]; simp
    omega
  have hT := quo_ge1 _ d (n % d) (Nat.le_refl _) e3
  rw [ofT_ok h0 ?_ ?_]
  · exact stand_quo _ n d (Nat.le_refl _) hc
  · unfold low1
    rw [quo_pos pd]
    rw [List.any_eq_false]
    intro t ht
    have := hT t (by simpa using ht)
    simp; omega
  · refine decide_eq_false ?_
    rintro ⟨h1, h2⟩
    by_cases hz : 0 < n % d
    · have := quo_last _ d (n % d) (Nat.le_refl _) hz e3
      rw [quo_pos pd] at h2
      rw [quo_pos hz] at h2 this
      exact this (by simpa using h2)
    · rw [quo_pos pd, quo_zero hz] at h1
      simp at h1

theorem of_is (l : List Int) : (∃ x y, ofT l = (x, y, 0) ∧ quo x y = l ∧ chk x y = 0) ∨ ∃ e, ¬ e = 0 ∧ ofT l = (0, 0, e) := by
  by_cases h0 : l.length = 0 ∨ 50 < l.length
  · exact .inr ⟨4, by decide, ofT_many h0⟩
  · cases h1 : low1 l with
    | true => exact .inr ⟨3, by decide, ofT_low h0 h1⟩
    | false =>
      cases h2 : last1 l with
      | true => exact .inr ⟨1, by decide, ofT_last h0 h1 h2⟩
      | false =>
        have e := ofT_ok h0 h1 h2
        match l, h0, h1, h2, e with
        | [], h0, _, _, _ => simp at h0
        | t :: r, h0, h1, h2, e =>
          have hT := tail_of h1
          rcases stand_two (t := t) hT with ⟨x, y, hs⟩ | hs
          · have k := quo_stand (t :: r) (by simp) (fun s hs => hT s (by simpa using hs)) (fun hl hg => by
              have := of_decide_eq_false h2
              exact this ⟨hl, hg⟩) x y hs
            exact .inl ⟨x, y, e.trans hs, k.1, k.2⟩
          · exact .inr ⟨8, by decide, e.trans hs⟩

theorem of_res {l : List Int} {x y e : Int} (h : ofT l = (x, y, e)) (v : Value) (w : World) (hL : IntsLie w v l) (hl : l.length ≤ 1000000) :
    Calls Try.prog 53 #[v] w fun r w' => r = .returned (.tuple #[.agg #[.int .i64 x, .int .i64 y], .int .i64 e]) ∧ Below w.heap.size w w' := by
  have := of_any v l w hL hl; rw [h] at this; exact this

set_option maxRecDepth 100000 in
set_option maxHeartbeats 4000000 in
theorem unique_any (an ad : Int) (sa : Option Addr) (len cap : Nat) (l : List Int) (w : World) (hlen : l.length = len) (hL : IntsLie w (.slice sa len cap) l) :
    Calls Try.prog 14 #[.agg #[.int .i64 an, .int .i64 ad], .slice sa len cap] w fun e w' => e = .returned (.bool true) ∧ Below w.heap.size w w' := by
  by_cases hl : 60 < len
  · have hl' : (60 : Int) < (len : Int) := by omega
    clear hl hlen hL
    go_enter Try.func14, Try.ntmps14
    go_wp2_with fail
    refine (summed_any _).mono ?_; rintro e w1 ⟨rfl, hb1⟩; obtain ⟨hc1, hf1⟩ := bcell hb1; have hs1 := hb1.size; (try simp at hs1); (try have hz10 : w.heap.size < w1.heap.size := by omega); (try have hz11 : w.heap.size + 1 < w1.heap.size := by omega); (try have hz12 : w.heap.size + 1 + 1 < w1.heap.size := by omega); (try have hz13 : w.heap.size + 1 + 1 + 1 < w1.heap.size := by omega); (try have hz14 : w.heap.size + 1 + 1 + 1 + 1 < w1.heap.size := by omega); (try have hz15 : w.heap.size + 1 + 1 + 1 + 1 + 1 < w1.heap.size := by omega)
    go_wp2
    go_ret
    exact ⟨rfl, by ((repeat' (first | exact Below.refl _ _ | assumption | refine Below.setCell ?_ ?_ _ | refine bdrewN ?_ _ | refine Below.drew ?_ | refine Below.alloc ?_ ?_ _ | refine bbehind ?_ (by assumption) ?_)); all_goals first | (simp; done) | (simp; omega) | omega)⟩
  · have hl' : ¬ (60 : Int) < (len : Int) := by omega
    have C1 := Lib.hid (fun w => rcheck_any an ad w)
    have HL := Lib.hid hL
    have HO := Lib.hid (of_is l)
    have hll : l.length ≤ 60 := by omega
    clear hL hl
    have HLEN := Lib.hid hlen
    clear hlen
    go_enter Try.func14, Try.ntmps14
    go_wp2_with fail
    refine (C1.out _).mono ?_; rintro e w1 ⟨rfl, hb1⟩; obtain ⟨hc1, hf1⟩ := bcell hb1; have hs1 := hb1.size; (try simp at hs1); (try have hz10 : w.heap.size < w1.heap.size := by omega); (try have hz11 : w.heap.size + 1 < w1.heap.size := by omega); (try have hz12 : w.heap.size + 1 + 1 < w1.heap.size := by omega); (try have hz13 : w.heap.size + 1 + 1 + 1 < w1.heap.size := by omega); (try have hz14 : w.heap.size + 1 + 1 + 1 + 1 < w1.heap.size := by omega); (try have hz15 : w.heap.size + 1 + 1 + 1 + 1 + 1 < w1.heap.size := by omega)
    go_upto_if 19 with fail
    go_cut [] (fun wx => Below w.heap.size w wx ∧ w.heap.size < wx.heap.size)
    case first =>
      by_cases hA : chk an ad = 0
      · have T := Lib.hid (fun w => terms_ok an ad w hA)
        have HQ := Lib.hid (of_quo hA)
        have hq : (quo an ad).length ≤ 50 := quo_len (fit_of_chk hA).dhi
        have hA' : (chk an ad == 0) = true := by simpa using hA
        clear hA C1 HO
        go_wp2_with fail
        refine (T.out _).mono ?_; rintro e w2 ⟨v, rfl, hv, hb2, -⟩; obtain ⟨hc2, hf2⟩ := bcell hb2; have hs2 := hb2.size; (try simp at hs2)
        have hz20 : w.heap.size < w2.heap.size := by omega
        have HV := Lib.hid hv; clear hv
        go_wp2_with fail
        refine (of_res HQ.out _ _ HV.out (by omega)).mono ?_; rintro e w3 ⟨rfl, hb3⟩; obtain ⟨hc3, hf3⟩ := bcell hb3; have hs3 := hb3.size; (try simp at hs3); (try have hz30 : w.heap.size < w3.heap.size := by omega); (try have hz31 : w.heap.size + 1 < w3.heap.size := by omega); (try have hz32 : w.heap.size + 1 + 1 < w3.heap.size := by omega); (try have hz33 : w.heap.size + 1 + 1 + 1 < w3.heap.size := by omega); (try have hz34 : w.heap.size + 1 + 1 + 1 + 1 < w3.heap.size := by omega); (try have hz35 : w.heap.size + 1 + 1 + 1 + 1 + 1 < w3.heap.size := by omega); (try have hy1_3 : w1.heap.size < w3.heap.size := by omega); (try have hy2_3 : w2.heap.size < w3.heap.size := by omega)
        go_wp2_with fail
        go_meet
        case rel => exact ⟨by ((repeat' (first | exact Below.refl _ _ | assumption | refine Below.setCell ?_ ?_ _ | refine bdrewN ?_ _ | refine Below.drew ?_ | refine Below.alloc ?_ ?_ _ | refine bbehind ?_ (by assumption) ?_)); all_goals first | (simp; done) | (simp; omega) | omega), (by first | assumption | (simp; done) | (simp; omega) | omega)⟩
      · have hA' : (chk an ad == 0) = false := by simpa using hA
        clear hA C1 HO
        go_wp2_with fail
        go_meet
        case rel => exact ⟨by ((repeat' (first | exact Below.refl _ _ | assumption | refine Below.setCell ?_ ?_ _ | refine bdrewN ?_ _ | refine Below.drew ?_ | refine Below.alloc ?_ ?_ _ | refine bbehind ?_ (by assumption) ?_)); all_goals first | (simp; done) | (simp; omega) | omega), (by first | assumption | (simp; done) | (simp; omega) | omega)⟩
    case rest =>
      obtain ⟨hb, hsz⟩ := hcut
      clear C1 hb1 hc1 hf1 hs1
      rcases HO.out with ⟨x, y, hr, hq, hc⟩ | ⟨e, he, hr⟩
      · have O := Lib.hid (fun w1 (hw : Below w.heap.size w w1) => of_res hr (.slice sa len cap) w1 (ints_below HL.out hw) (by omega))
        have T := Lib.hid (fun w => terms_ok x y w hc)
        rw [hq] at T
        clear hr hq hc HO
        go_wp2_with fail
        refine (O.out _ (by ((repeat' (first | exact Below.refl _ _ | assumption | refine Below.setCell ?_ ?_ _ | refine bdrewN ?_ _ | refine Below.drew ?_ | refine Below.alloc ?_ ?_ _ | refine bbehind ?_ (by assumption) ?_)); all_goals first | (simp; done) | (simp; omega) | omega))).mono ?_; rintro e w2 ⟨rfl, hb2⟩; obtain ⟨hc2, hf2⟩ := bcell hb2; have hs2 := hb2.size; (try simp at hs2); (try have hz20 : w.heap.size < w2.heap.size := by omega); (try have hz21 : w.heap.size + 1 < w2.heap.size := by omega); (try have hz22 : w.heap.size + 1 + 1 < w2.heap.size := by omega); (try have hz23 : w.heap.size + 1 + 1 + 1 < w2.heap.size := by omega); (try have hz24 : w.heap.size + 1 + 1 + 1 + 1 < w2.heap.size := by omega); (try have hz25 : w.heap.size + 1 + 1 + 1 + 1 + 1 < w2.heap.size := by omega); (try have hy1_2 : w1.heap.size < w2.heap.size := by omega)
        go_wp2_with fail
        refine (T.out _).mono ?_; rintro e w3 ⟨v, rfl, hv, hb3, -⟩; obtain ⟨hc3, hf3⟩ := bcell hb3; have hs3 := hb3.size; (try simp at hs3)
        have hz30 : w.heap.size < w3.heap.size := by omega
        have hB3 : Below w.heap.size w w3 := by ((repeat' (first | exact Below.refl _ _ | assumption | refine Below.setCell ?_ ?_ _ | refine bdrewN ?_ _ | refine Below.drew ?_ | refine Below.alloc ?_ ?_ _ | refine bbehind ?_ (by assumption) ?_)); all_goals first | (simp; done) | (simp; omega) | omega)
        have A := Lib.hid (alike_any v (.slice sa len cap) l l w3 hv (ints_below HL.out hB3) (by omega) (by omega))
        rw [show alikeB l l = true from decide_eq_true rfl] at A
        clear hv
        go_wp2_with fail
        refine (A.out).mono ?_; rintro e w4 ⟨rfl, hb4⟩; obtain ⟨hc4, hf4⟩ := bcell hb4; have hs4 := hb4.size; (try simp at hs4); (try have hz40 : w.heap.size < w4.heap.size := by omega); (try have hz41 : w.heap.size + 1 < w4.heap.size := by omega); (try have hz42 : w.heap.size + 1 + 1 < w4.heap.size := by omega); (try have hz43 : w.heap.size + 1 + 1 + 1 < w4.heap.size := by omega); (try have hz44 : w.heap.size + 1 + 1 + 1 + 1 < w4.heap.size := by omega); (try have hz45 : w.heap.size + 1 + 1 + 1 + 1 + 1 < w4.heap.size := by omega); (try have hy1_4 : w1.heap.size < w4.heap.size := by omega); (try have hy2_4 : w2.heap.size < w4.heap.size := by omega); (try have hy3_4 : w3.heap.size < w4.heap.size := by omega)
        go_wp2_with fail
        refine (summed_any _).mono ?_; rintro e w5 ⟨rfl, hb5⟩; obtain ⟨hc5, hf5⟩ := bcell hb5; have hs5 := hb5.size; (try simp at hs5); (try have hz50 : w.heap.size < w5.heap.size := by omega); (try have hz51 : w.heap.size + 1 < w5.heap.size := by omega); (try have hz52 : w.heap.size + 1 + 1 < w5.heap.size := by omega); (try have hz53 : w.heap.size + 1 + 1 + 1 < w5.heap.size := by omega); (try have hz54 : w.heap.size + 1 + 1 + 1 + 1 < w5.heap.size := by omega); (try have hz55 : w.heap.size + 1 + 1 + 1 + 1 + 1 < w5.heap.size := by omega); (try have hy1_5 : w1.heap.size < w5.heap.size := by omega); (try have hy2_5 : w2.heap.size < w5.heap.size := by omega); (try have hy3_5 : w3.heap.size < w5.heap.size := by omega); (try have hy4_5 : w4.heap.size < w5.heap.size := by omega)
        go_wp2
        go_ret
        exact ⟨rfl, by ((repeat' (first | exact Below.refl _ _ | assumption | refine Below.setCell ?_ ?_ _ | refine bdrewN ?_ _ | refine Below.drew ?_ | refine Below.alloc ?_ ?_ _ | refine bbehind ?_ (by assumption) ?_)); all_goals first | (simp; done) | (simp; omega) | omega)⟩
      · have O := Lib.hid (fun w1 (hw : Below w.heap.size w w1) => of_res hr (.slice sa len cap) w1 (ints_below HL.out hw) (by omega))
        have he' : (e != 0) = true := by simpa using he
        clear hr he HO
        go_wp2_with fail
        refine (O.out _ (by ((repeat' (first | exact Below.refl _ _ | assumption | refine Below.setCell ?_ ?_ _ | refine bdrewN ?_ _ | refine Below.drew ?_ | refine Below.alloc ?_ ?_ _ | refine bbehind ?_ (by assumption) ?_)); all_goals first | (simp; done) | (simp; omega) | omega))).mono ?_; rintro e w2 ⟨rfl, hb2⟩; obtain ⟨hc2, hf2⟩ := bcell hb2; have hs2 := hb2.size; (try simp at hs2); (try have hz20 : w.heap.size < w2.heap.size := by omega); (try have hz21 : w.heap.size + 1 < w2.heap.size := by omega); (try have hz22 : w.heap.size + 1 + 1 < w2.heap.size := by omega); (try have hz23 : w.heap.size + 1 + 1 + 1 < w2.heap.size := by omega); (try have hz24 : w.heap.size + 1 + 1 + 1 + 1 < w2.heap.size := by omega); (try have hz25 : w.heap.size + 1 + 1 + 1 + 1 + 1 < w2.heap.size := by omega); (try have hy1_2 : w1.heap.size < w2.heap.size := by omega)
        go_wp2_with fail
        refine (summed_any _).mono ?_; rintro e w3 ⟨rfl, hb3⟩; obtain ⟨hc3, hf3⟩ := bcell hb3; have hs3 := hb3.size; (try simp at hs3); (try have hz30 : w.heap.size < w3.heap.size := by omega); (try have hz31 : w.heap.size + 1 < w3.heap.size := by omega); (try have hz32 : w.heap.size + 1 + 1 < w3.heap.size := by omega); (try have hz33 : w.heap.size + 1 + 1 + 1 < w3.heap.size := by omega); (try have hz34 : w.heap.size + 1 + 1 + 1 + 1 < w3.heap.size := by omega); (try have hz35 : w.heap.size + 1 + 1 + 1 + 1 + 1 < w3.heap.size := by omega); (try have hy1_3 : w1.heap.size < w3.heap.size := by omega); (try have hy2_3 : w2.heap.size < w3.heap.size := by omega)
        go_wp2
        go_ret
        exact ⟨rfl, by ((repeat' (first | exact Below.refl _ _ | assumption | refine Below.setCell ?_ ?_ _ | refine bdrewN ?_ _ | refine Below.drew ?_ | refine Below.alloc ?_ ?_ _ | refine bbehind ?_ (by assumption) ?_)); all_goals first | (simp; done) | (simp; omega) | omega)⟩
end Go.Proofs.Ytgefidffhdanhaa
