import Derived.Test.YtgefidffhdanhaaNumM
namespace Go.Proofs.Ytgefidffhdanhaa
open Go.RowKit Go.BigFrame

theorem roundM_bd {n d B : Int} (h1 : -B ≤ n) (h2 : n ≤ B) (hd : 0 < d) : -B ≤ roundM n d ∧ roundM n d ≤ B := by
  have hq := ediv_bd n d B h1 h2 hd
  have e1 := Int.mul_ediv_add_emod n d
  have e2 := Int.emod_nonneg n (by omega : d ≠ 0)
  have e3 := Int.emod_lt_of_pos n hd
  have hup : d ≤ 2 * (n % d) → n / d + 1 ≤ B := by
    intro h
    by_cases hn : 0 ≤ n / d
    · have := Int.mul_le_mul_of_nonneg_right (by omega : 1 ≤ d) hn
      omega
    · omega
  unfold roundM
  split
  · rename_i h
    have := hup (by omega)
    omega
  · exact hq

/-- the text of a multiple of the last place. -/
def decS (q : Int) (p : Nat) : List UInt8 := signText q (numText ((q.natAbs : Int) / p10 p) 1 (if p = 0 then [] else 46 :: numText ((q.natAbs : Int) % p10 p) p []))

theorem numTextK_len {n : Int} {p : Nat} (h : n < p10 p) : (numText n p []).length ≤ p := by
  unfold numText
  rw [List.append_nil, Int.toNat_natCast]
  have h1 : n.toNat < 10 ^ p := by
    have : p10 p = ((10 ^ p : Nat) : Int) := by unfold p10; simp
    have h0 : 0 < (10 : Nat) ^ p := Nat.pow_pos (by omega)
    omega
  have := padS_len p n.toNat p h1
  omega

def decE (n d p : Int) : List UInt8 × Int := if chk n d = 0 then (if 0 ≤ p ∧ p ≤ 9 then (decS (roundM (n * p10 p.toNat) d) p.toNat, 0) else ([], 3)) else ([], chk n d)
theorem decE_e {n d p : Int} (h : ¬ chk n d = 0) : decE n d p = ([], chk n d) := if_neg h
theorem decE_p {n d p : Int} (h : chk n d = 0) (k : ¬ (0 ≤ p ∧ p ≤ 9)) : decE n d p = ([], 3) := by unfold decE; rw [if_pos h, if_neg k]
theorem decE_o {n d : Int} {p : Nat} (h : chk n d = 0) (k : p ≤ 9) : decE n d p = (decS (roundM (n * p10 p) d) p, 0) := by unfold decE; rw [if_pos h, if_pos (by omega), Int.toNat_natCast]

/-- the sizes that Decimal meets. -/
theorem dec_bd {n d : Int} {p : Nat} (f : Fit n d) (hp : p ≤ 9) :
    -1000000000000000000 ≤ n * p10 p ∧ n * p10 p ≤ 1000000000000000000 ∧ -1000000000000000000 ≤ roundM (n * p10 p) d ∧ roundM (n * p10 p) d ≤ 1000000000000000000 ∧
      (((roundM (n * p10 p) d).natAbs : Int) / p10 p) ≤ 1000000000 := by
  obtain ⟨n1, n2, d1, d2⟩ := f
  obtain ⟨s1, s2⟩ := p10_bd p hp
  have m := mul_bd9 n1 n2 (by omega : -1000000000 ≤ p10 p) s2
  have k1 : n * p10 p ≤ 1000000000 * p10 p := Int.mul_le_mul_of_nonneg_right n2 (by omega)
  have k2 : -(1000000000 * p10 p) ≤ n * p10 p := by
    have := Int.mul_le_mul_of_nonneg_right n1 (by omega : 0 ≤ p10 p)
    rw [Int.neg_mul] at this; exact this
  have r := roundM_bd k2 k1 (by omega : 0 < d)
  refine ⟨m.1, m.2, by omega, by omega, ?_⟩
  have : ((roundM (n * p10 p) d).natAbs : Int) ≤ 1000000000 * p10 p := by omega
  exact Int.ediv_le_of_le_mul (by omega) this

set_option maxHeartbeats 4000000 in
theorem decimal_any (n d p : Int) (w : World) :
    Calls Try.prog 45 #[.agg #[.int .i64 n, .int .i64 d], .int .i64 p] w fun e w' => e = .returned (.tuple #[.string ⟨(decE n d p).1.toArray⟩, .int .i64 (decE n d p).2]) ∧ Below w.heap.size w w' := by
  by_cases hA : chk n d = 0
  · by_cases hp : 0 ≤ p ∧ p ≤ 9
    · obtain ⟨p, rfl⟩ := Int.eq_ofNat_of_zero_le hp.1
      have hp9 : p ≤ 9 := by omega
      have f := fit_of_chk hA
      obtain ⟨m1, m2, r1, r2, r3⟩ := dec_bd f hp9
      obtain ⟨s1, s2⟩ := p10_bd p hp9
      rw [decE_o hA hp9]
      obtain ⟨n1, n2, d1, d2⟩ := f
      have HR := Lib.hid (fun w => round_any (n * p10 p) d w m1 m2 (by omega) d2)
      unfold decS
      generalize roundM (n * p10 p) d = q at *
      have y1 := Int.emod_nonneg (q.natAbs : Int) (by omega : p10 p ≠ 0)
      have y2 := Int.emod_lt_of_pos (q.natAbs : Int) (by omega : 0 < p10 p)
      have y3 := Int.ediv_nonneg (by omega : 0 ≤ (q.natAbs : Int)) (by omega : 0 ≤ p10 p)
      have hs0 : ¬ p10 p = 0 := by omega
      clear hp
      have PZ := Lib.hid (by rfl : p10 0 = 1)
      by_cases hp0 : p = 0
      · subst hp0
        rw [if_pos rfl]
        have l1 := numText1_len [] (n := (q.natAbs : Int) / p10 0) r3
        have l2 := signText_len q (numText ((q.natAbs : Int) / p10 0) 1 [])
        simp only [List.length_nil] at l1
        generalize hL : signText q (numText ((q.natAbs : Int) / p10 0) 1 []) = L at *
        have HL := Lib.hid hL; clear hL
        go_enter Try.func45, Try.ntmps45
        go_wp2_with fail
        refine (check_any _ _ _).mono ?_
        rintro e wc ⟨rfl, hbc⟩
        obtain ⟨hcc, hfc⟩ := bcell hbc
        have hsc := hbc.size
        simp at hsc
        have hzc : w.heap.size < wc.heap.size := by omega
        go_wp2_with fail
        refine (tenTo_any _ _ (by omega)).mono ?_
        rintro e w' ⟨rfl, rfl⟩
        go_wp2_with fail
        refine (HR.out _).mono ?_
        rintro e w' ⟨rfl, rfl⟩
        go_wp2_with fail
        refine (newWriter_any _).mono ?_
        rintro e w0 ⟨rfl, hb0, hw0⟩
        have hs0 := hb0.size
        have hz0 : w.heap.size < w0.heap.size := by omega
        clear hcc hfc
        have HW0 := Lib.hid hw0; clear hw0
        have hb00 : Below w.heap.size w w0 := bbehind (bbehind ((Below.refl _ _).alloc (Nat.le_refl _) _) hbc (by simp)) hb0 (by omega)
        have HB0 := Lib.hid hb00; clear hb00 hb0 hbc
        go_wp2_with fail
        refine (abs_any _ _ (by omega) (by omega)).mono ?_
        rintro e w' ⟨rfl, rfl⟩
        go_wp2_with fail
        refine (number_any _ _ _ _ _ HW0.out (by omega) (by omega) (by omega) (by omega) (by omega)).mono ?_
        rintro e w1 ⟨rfl, ho, hw⟩
        have hz1 : w.heap.size < w1.heap.size := by have := ho.size; omega
        have hb : Below w.heap.size w w1 := below_only HB0.out ho (by omega) (by omega)
        clear ho
        have HB1 := Lib.hid hb; clear hb
        have HW1 := Lib.hid hw; clear hw
        go_wp2_with fail
        refine (sign_any _ _ _ _ HW1.out (by omega)).mono ?_
        rintro e w2 ⟨rfl, ho, hw⟩
        have hz2 : w.heap.size < w2.heap.size := by have := ho.size; omega
        have hb : Below w.heap.size w w2 := below_only HB1.out ho (by omega) (by omega)
        clear ho
        have HB2 := Lib.hid hb; clear hb
        have HW2 := Lib.hid hw; clear hw
        go_wp2_with fail
        refine (text_any _ _ _ HW2.out).mono ?_
        rintro e wl ⟨rfl, hl⟩
        go_wp2
        go_ret2
        exact ⟨by first | rfl | (rw [HL.out]; rfl), bbehind HB2.out hl (by omega)⟩
      · have hp1 : (0 : Int) < (p : Int) := by omega
        rw [if_neg hp0]
        clear hp0
        have l0 := numTextK_len y2
        have l1 := numText1_len (46 :: numText ((q.natAbs : Int) % p10 p) p []) (n := (q.natAbs : Int) / p10 p) r3
        have l2 := signText_len q (numText ((q.natAbs : Int) / p10 p) 1 (46 :: numText ((q.natAbs : Int) % p10 p) p []))
        simp only [List.length_cons] at l0 l1
        generalize hL : signText q (numText ((q.natAbs : Int) / p10 p) 1 (46 :: numText ((q.natAbs : Int) % p10 p) p [])) = L at *
        have HL := Lib.hid hL; clear hL
        go_enter Try.func45, Try.ntmps45
        go_wp2_with fail
        refine (check_any _ _ _).mono ?_
        rintro e wc ⟨rfl, hbc⟩
        obtain ⟨hcc, hfc⟩ := bcell hbc
        have hsc := hbc.size
        simp at hsc
        have hzc : w.heap.size < wc.heap.size := by omega
        go_wp2_with fail
        refine (tenTo_any _ _ (by omega)).mono ?_
        rintro e w' ⟨rfl, rfl⟩
        go_wp2_with fail
        refine (HR.out _).mono ?_
        rintro e w' ⟨rfl, rfl⟩
        go_wp2_with fail
        refine (newWriter_any _).mono ?_
        rintro e w0 ⟨rfl, hb0, hw0⟩
        have hs0 := hb0.size
        have hz0 : w.heap.size < w0.heap.size := by omega
        clear hcc hfc
        have HW0 := Lib.hid hw0; clear hw0
        have hb00 : Below w.heap.size w w0 := bbehind (bbehind ((Below.refl _ _).alloc (Nat.le_refl _) _) hbc (by simp)) hb0 (by omega)
        have HB0 := Lib.hid hb00; clear hb00 hb0 hbc
        go_wp2_with fail
        refine (abs_any _ _ (by omega) (by omega)).mono ?_
        rintro e w' ⟨rfl, rfl⟩
        go_wp2_with fail
        refine (number_any _ _ _ _ _ HW0.out (by omega) (by omega) (by omega) (by omega) (by omega)).mono ?_
        rintro e w1 ⟨rfl, ho, hw⟩
        have hz1 : w.heap.size < w1.heap.size := by have := ho.size; omega
        have hb : Below w.heap.size w w1 := below_only HB0.out ho (by omega) (by omega)
        clear ho
        have HB1 := Lib.hid hb; clear hb
        have HW1 := Lib.hid hw; clear hw
        go_wp2_with fail
        refine (put_int _ _ 46 46 _ rfl HW1.out (by omega)).mono ?_
        rintro e w2 ⟨rfl, ho, hw⟩
        have hz2 : w.heap.size < w2.heap.size := by have := ho.size; omega
        have hb : Below w.heap.size w w2 := below_only HB1.out ho (by omega) (by omega)
        clear ho
        have HB2 := Lib.hid hb; clear hb
        have HW2 := Lib.hid hw; clear hw
        go_wp2_with fail
        refine (abs_any _ _ (by omega) (by omega)).mono ?_
        rintro e w' ⟨rfl, rfl⟩
        go_wp2_with fail
        refine (number_any _ _ _ _ _ HW2.out (by omega) (by omega) (by omega) (by omega) (by first | omega | (simp only [List.length_cons]; omega))).mono ?_
        rintro e w3 ⟨rfl, ho, hw⟩
        have hz3 : w.heap.size < w3.heap.size := by have := ho.size; omega
        have hb : Below w.heap.size w w3 := below_only HB2.out ho (by omega) (by omega)
        clear ho
        have HB3 := Lib.hid hb; clear hb
        have HW3 := Lib.hid hw; clear hw
        go_wp2_with fail
        refine (sign_any _ _ _ _ HW3.out (by omega)).mono ?_
        rintro e w4 ⟨rfl, ho, hw⟩
        have hz4 : w.heap.size < w4.heap.size := by have := ho.size; omega
        have hb : Below w.heap.size w w4 := below_only HB3.out ho (by omega) (by omega)
        clear ho
        have HB4 := Lib.hid hb; clear hb
        have HW4 := Lib.hid hw; clear hw
        go_wp2_with fail
        refine (text_any _ _ _ HW4.out).mono ?_
        rintro e wl ⟨rfl, hl⟩
        go_wp2
        go_ret2
        exact ⟨by first | rfl | (rw [HL.out]; rfl), bbehind HB4.out hl (by omega)⟩
    · rw [decE_p hA hp]
      by_cases hlo : p < 0
      · clear hp
        go_enter Try.func45, Try.ntmps45
        go_wp2_with (go_at_call 16; refine (check_any _ _ _).mono ?_; rintro e w1 ⟨rfl, hb1⟩; obtain ⟨hc1, hf1⟩ := bcell hb1; have hs1 := hb1.size; (try simp at hs1); (try have hz0 : w.heap.size < w1.heap.size := by omega); (try have hz1 : w.heap.size + 1 < w1.heap.size := by omega); (try have hz2 : w.heap.size + 1 + 1 < w1.heap.size := by omega); (try have hz3 : w.heap.size + 1 + 1 + 1 < w1.heap.size := by omega); (try have hz4 : w.heap.size + 1 + 1 + 1 + 1 < w1.heap.size := by omega); (try have hz5 : w.heap.size + 1 + 1 + 1 + 1 + 1 < w1.heap.size := by omega))
        go_ret2
        exact ⟨rfl, by ((repeat' (first | exact Below.refl _ _ | assumption | refine Below.setCell ?_ ?_ _ | refine bdrewN ?_ _ | refine Below.drew ?_ | refine Below.alloc ?_ ?_ _ | refine bbehind ?_ (by assumption) ?_)); all_goals first | (simp; done) | (simp; omega) | omega)⟩
      · have hhi : 9 < p := by omega
        clear hp
        go_enter Try.func45, Try.ntmps45
        go_wp2_with (go_at_call 16; refine (check_any _ _ _).mono ?_; rintro e w1 ⟨rfl, hb1⟩; obtain ⟨hc1, hf1⟩ := bcell hb1; have hs1 := hb1.size; (try simp at hs1); (try have hz0 : w.heap.size < w1.heap.size := by omega); (try have hz1 : w.heap.size + 1 < w1.heap.size := by omega); (try have hz2 : w.heap.size + 1 + 1 < w1.heap.size := by omega); (try have hz3 : w.heap.size + 1 + 1 + 1 < w1.heap.size := by omega); (try have hz4 : w.heap.size + 1 + 1 + 1 + 1 < w1.heap.size := by omega); (try have hz5 : w.heap.size + 1 + 1 + 1 + 1 + 1 < w1.heap.size := by omega))
        go_ret2
        exact ⟨rfl, by ((repeat' (first | exact Below.refl _ _ | assumption | refine Below.setCell ?_ ?_ _ | refine bdrewN ?_ _ | refine Below.drew ?_ | refine Below.alloc ?_ ?_ _ | refine bbehind ?_ (by assumption) ?_)); all_goals first | (simp; done) | (simp; omega) | omega)⟩
  · have hA' : (chk n d != 0) = true := by simpa using hA
    rw [decE_e hA]
    clear hA
    go_enter Try.func45, Try.ntmps45
    go_wp2_with (go_at_call 16; refine (check_any _ _ _).mono ?_; rintro e w1 ⟨rfl, hb1⟩; obtain ⟨hc1, hf1⟩ := bcell hb1; have hs1 := hb1.size; (try simp at hs1); (try have hz0 : w.heap.size < w1.heap.size := by omega); (try have hz1 : w.heap.size + 1 < w1.heap.size := by omega); (try have hz2 : w.heap.size + 1 + 1 < w1.heap.size := by omega); (try have hz3 : w.heap.size + 1 + 1 + 1 < w1.heap.size := by omega); (try have hz4 : w.heap.size + 1 + 1 + 1 + 1 < w1.heap.size := by omega); (try have hz5 : w.heap.size + 1 + 1 + 1 + 1 + 1 < w1.heap.size := by omega))
    go_ret2
    exact ⟨rfl, by ((repeat' (first | exact Below.refl _ _ | assumption | refine Below.setCell ?_ ?_ _ | refine bdrewN ?_ _ | refine Below.drew ?_ | refine Below.alloc ?_ ?_ _ | refine bbehind ?_ (by assumption) ?_)); all_goals first | (simp; done) | (simp; omega) | omega)⟩
end Go.Proofs.Ytgefidffhdanhaa
