/- What the proof of PrfTreeChecks rests on, part 6 of 10. -/
import Derived.Laws.Runes
import Derived.Laws.RangeAny
import Derived.Laws.StandIn
import Derived.Lib.TrimU
import Derived.Test.YtcgedpfolloinaaGreatPPrfTreeChecks5
namespace Go.Proofs.YtcgedpfolloinaaGreat
open Go.RowKit Go.BigFrame

/-- a fraction's text: the two numbers that it says, if this is just how they are written. -/
def fracR (l f b : List UInt8) (v : Int) : Int × Int × Int :=
  if ((digR f 10).2 = true ∧ (digR b 10).2 = true) ∧ chk v (valN b : Int) = 0 ∧ toldS v (valN b : Int) = l then (v, (valN b : Int), 0) else (0, 0, 1)
theorem fracR_no {l f b : List UInt8} {v : Int} (h : ¬ (((digR f 10).2 = true ∧ (digR b 10).2 = true) ∧ chk v (valN b : Int) = 0 ∧ toldS v (valN b : Int) = l)) : fracR l f b v = (0, 0, 1) := if_neg h
theorem fracR_yes {l f b : List UInt8} {v : Int} (h : ((digR f 10).2 = true ∧ (digR b 10).2 = true) ∧ chk v (valN b : Int) = 0 ∧ toldS v (valN b : Int) = l) : fracR l f b v = (v, (valN b : Int), 0) := if_pos h
/-- a number with a sign. -/
def signed (neg : Bool) (n : Nat) : Int := if neg then -(n : Int) else (n : Int)
/-- what a text says. -/
def parseT (l : List UInt8) : Int × Int × Int :=
  if cutM (bodyOf l) = 46 then decR (cutF (bodyOf l)) (cutB (bodyOf l)) (factorOf l)
  else fracR l (cutF (bodyOf l)) (if cutM (bodyOf l) = 0 then [49] else cutB (bodyOf l)) (signed (isNeg l) (valN (cutF (bodyOf l))))

theorem bodyOf_len (l : List UInt8) : (bodyOf l).length ≤ l.length := by unfold bodyOf; split <;> simp
theorem cutF_len (l : List UInt8) : (cutF l).length ≤ l.length := by unfold cutF; simp; omega
theorem cutB_len (l : List UInt8) : (cutB l).length ≤ l.length := by unfold cutB; simp
theorem str_eq (a b : List UInt8) : ((⟨a.toArray⟩ : ByteArray) == ⟨b.toArray⟩) = (a == b) := by
  have : ((⟨a.toArray⟩ : ByteArray) == ⟨b.toArray⟩) = (a.toArray == b.toArray) := rfl
  rw [this]
  simp
theorem str_ne (a b : List UInt8) : ((⟨a.toArray⟩ : ByteArray) != ⟨b.toArray⟩) = (a != b) := by
  show (!((⟨a.toArray⟩ : ByteArray) == ⟨b.toArray⟩)) = !(a == b)
  rw [str_eq]
theorem one_digit (w : World) : Calls Tryz.prog 210 #[.string ⟨#[49]⟩, .int .i64 10] w fun e w' => e = .returned (.tuple #[.int .i64 1, .bool true]) ∧ Below w.heap.size w w' := by
  have h := digits_any [49] 10 w (by simp) (by omega)
  rw [show digR [49] 10 = (1, true) by decide] at h
  exact h

set_option maxRecDepth 100000 in
set_option maxHeartbeats 2000000 in
theorem parse_dec_pos (l : List UInt8) (w : World) (hl : l.length ≤ 100000) (hn : isNeg l = false) (hm : cutM (bodyOf l) = 46) :
    Calls Tryz.prog 201 #[.string ⟨l.toArray⟩] w fun e w' => e = .returned (.tuple #[.agg #[.int .i64 (decR (cutF (bodyOf l)) (cutB (bodyOf l)) (1)).1, .int .i64 (decR (cutF (bodyOf l)) (cutB (bodyOf l)) (1)).2.1], .int .i64 (decR (cutF (bodyOf l)) (cutB (bodyOf l)) (1)).2.2]) ∧ Below w.heap.size w w' := by
  have P1 := Lib.hid (fun w => cutPrefix_any l w hl)
  have bl := bodyOf_len l
  have C1 := Lib.hid (fun w => cut_any (bodyOf l) w (by omega))
  have fl := cutF_len (bodyOf l)
  have cl := cutB_len (bodyOf l)
  have D1 := Lib.hid (fun w => parseDecimal_any (cutF (bodyOf l)) (cutB (bodyOf l)) (1) w (by omega) (by omega) (by omega))
  rw [hm] at C1
  generalize decR (cutF (bodyOf l)) (cutB (bodyOf l)) (1) = L at *
  generalize bodyOf l = B at *
  generalize cutF B = F at *
  generalize cutB B = G at *
  clear hm bl fl cl
  go_enter Tryz.func201, Tryz.ntmps201
  go_wp2_with fail
  refine (P1.out _).mono ?_
  rintro e w' ⟨rfl, rfl⟩
  go_wp2_with fail
  refine (C1.out _).mono ?_; rintro e w1 ⟨rfl, hb1⟩; obtain ⟨hc1, hf1⟩ := bcell hb1; have hs1 := hb1.size; (try simp at hs1); (try have hz10 : w.heap.size < w1.heap.size := by omega); (try have hz11 : w.heap.size + 1 < w1.heap.size := by omega); (try have hz12 : w.heap.size + 1 + 1 < w1.heap.size := by omega); (try have hz13 : w.heap.size + 1 + 1 + 1 < w1.heap.size := by omega); (try have hz14 : w.heap.size + 1 + 1 + 1 + 1 < w1.heap.size := by omega); (try have hz15 : w.heap.size + 1 + 1 + 1 + 1 + 1 < w1.heap.size := by omega)
  go_wp2_with fail
  refine (D1.out _).mono ?_; rintro e w2 ⟨rfl, hb2⟩; obtain ⟨hc2, hf2⟩ := bcell hb2; have hs2 := hb2.size; (try simp at hs2); (try have hz20 : w.heap.size < w2.heap.size := by omega); (try have hz21 : w.heap.size + 1 < w2.heap.size := by omega); (try have hz22 : w.heap.size + 1 + 1 < w2.heap.size := by omega); (try have hz23 : w.heap.size + 1 + 1 + 1 < w2.heap.size := by omega); (try have hz24 : w.heap.size + 1 + 1 + 1 + 1 < w2.heap.size := by omega); (try have hz25 : w.heap.size + 1 + 1 + 1 + 1 + 1 < w2.heap.size := by omega)
  go_wp2
  refine bodyPost_ret (v := .tuple #[.agg #[.int .i64 (L).1, .int .i64 (L).2.1], .int .i64 (L).2.2]) (by simp (maxDischargeDepth := 8) [results, Tryz.results201, go_sem, *]) rfl ?_
  exact ⟨rfl, by ((repeat' (first | exact Below.refl _ _ | assumption | refine Below.setCell ?_ ?_ _ | refine bdrewN ?_ _ | refine Below.drew ?_ | refine Below.alloc ?_ ?_ _ | refine bbehind ?_ (by assumption) ?_)); all_goals first | (simp; done) | (simp; omega) | omega)⟩

set_option maxRecDepth 100000 in
set_option maxHeartbeats 2000000 in
theorem parse_whole_pos (l : List UInt8) (w : World) (hl : l.length ≤ 100000) (hn : isNeg l = false) (hm : cutM (bodyOf l) = 0) :
    Calls Tryz.prog 201 #[.string ⟨l.toArray⟩] w fun e w' => e = .returned (.tuple #[.agg #[.int .i64 (fracR l (cutF (bodyOf l)) ([49]) ((valN (cutF (bodyOf l)) : Int))).1, .int .i64 (fracR l (cutF (bodyOf l)) ([49]) ((valN (cutF (bodyOf l)) : Int))).2.1], .int .i64 (fracR l (cutF (bodyOf l)) ([49]) ((valN (cutF (bodyOf l)) : Int))).2.2]) ∧ Below w.heap.size w w' := by
  have P1 := Lib.hid (fun w => cutPrefix_any l w hl)
  have bl := bodyOf_len l
  have C1 := Lib.hid (fun w => cut_any (bodyOf l) w (by omega))
  have fl := cutF_len (bodyOf l)
  have cl := cutB_len (bodyOf l)
  rw [hm] at C1
  clear hm
  have D1 := Lib.hid (fun w => digits_any (cutF (bodyOf l)) 10 w (by omega) (by omega))
  have D2 := Lib.hid one_digit
  have h2 : (digR [49] 10).2 = true := by decide
  generalize hB : bodyOf l = B at *
  generalize hF : cutF B = F at *
  generalize hG : cutB B = G at *
  clear hB hF hG bl fl cl
  cases h1 : (digR F 10).2 with
  | false =>
    rw [digR_false h1] at D1
    rw [fracR_no (by rw [h1]; simp)]
    clear h1 h2
    go_enter Tryz.func201, Tryz.ntmps201
    go_wp2_with fail
    refine (P1.out _).mono ?_
    rintro e w' ⟨rfl, rfl⟩
    go_wp2_with fail
    refine (C1.out _).mono ?_; rintro e w1 ⟨rfl, hb1⟩; obtain ⟨hc1, hf1⟩ := bcell hb1; have hs1 := hb1.size; (try simp at hs1); (try have hz10 : w.heap.size < w1.heap.size := by omega); (try have hz11 : w.heap.size + 1 < w1.heap.size := by omega); (try have hz12 : w.heap.size + 1 + 1 < w1.heap.size := by omega); (try have hz13 : w.heap.size + 1 + 1 + 1 < w1.heap.size := by omega); (try have hz14 : w.heap.size + 1 + 1 + 1 + 1 < w1.heap.size := by omega); (try have hz15 : w.heap.size + 1 + 1 + 1 + 1 + 1 < w1.heap.size := by omega)
    go_wp2_with fail
    refine (D1.out _).mono ?_; rintro e w2 ⟨rfl, hb2⟩; obtain ⟨hc2, hf2⟩ := bcell hb2; have hs2 := hb2.size; (try simp at hs2); (try have hz20 : w.heap.size < w2.heap.size := by omega); (try have hz21 : w.heap.size + 1 < w2.heap.size := by omega); (try have hz22 : w.heap.size + 1 + 1 < w2.heap.size := by omega); (try have hz23 : w.heap.size + 1 + 1 + 1 < w2.heap.size := by omega); (try have hz24 : w.heap.size + 1 + 1 + 1 + 1 < w2.heap.size := by omega); (try have hz25 : w.heap.size + 1 + 1 + 1 + 1 + 1 < w2.heap.size := by omega)
    go_wp2_with fail
    refine (D2.out _).mono ?_; rintro e w3 ⟨rfl, hb3⟩; obtain ⟨hc3, hf3⟩ := bcell hb3; have hs3 := hb3.size; (try simp at hs3); (try have hz30 : w.heap.size < w3.heap.size := by omega); (try have hz31 : w.heap.size + 1 < w3.heap.size := by omega); (try have hz32 : w.heap.size + 1 + 1 < w3.heap.size := by omega); (try have hz33 : w.heap.size + 1 + 1 + 1 < w3.heap.size := by omega); (try have hz34 : w.heap.size + 1 + 1 + 1 + 1 < w3.heap.size := by omega); (try have hz35 : w.heap.size + 1 + 1 + 1 + 1 + 1 < w3.heap.size := by omega)
    go_wp2_with fail
    refine bodyPost_ret (v := .tuple #[.agg #[.int .i64 0, .int .i64 0], .int .i64 1]) (by simp (maxDischargeDepth := 8) [results, Tryz.results201, go_sem, *]) rfl ?_
    exact ⟨rfl, by ((repeat' (first | exact Below.refl _ _ | assumption | refine Below.setCell ?_ ?_ _ | refine bdrewN ?_ _ | refine Below.drew ?_ | refine Below.alloc ?_ ?_ _ | refine bbehind ?_ (by assumption) ?_)); all_goals first | (simp; done) | (simp; omega) | omega)⟩
  | true =>
    obtain ⟨⟨f1, f2⟩, f3⟩ := digR_true h1
    rw [digR_yes ⟨⟨f1, f2⟩, f3⟩] at D1
    have f4 := valN_bd f3 (by omega)
    have K := Lib.hid (fun w => check_any ((valN F : Int)) 1 w)
    by_cases hc : chk ((valN F : Int)) 1 = 0
    · have T := Lib.hid (fun w => printed_any ((valN F : Int)) 1 w (fit_of_chk hc))
      rw [hc] at K
      by_cases ht : toldS ((valN F : Int)) 1 = l
      · rw [fracR_yes ⟨⟨h1, h2⟩, hc, ht⟩]
        rw [ht] at T
        have heq2 : (l != l) = false := by simp
        have heq := (str_ne l l).trans heq2
        clear h1 h2 hc ht f3
        show Calls _ _ _ _ fun e w' => e = .returned (.tuple #[.agg #[.int .i64 ((valN F : Int)), .int .i64 1], .int .i64 0]) ∧ _
        generalize hx : (valN F : Int) = x at *
        have x1 : 0 ≤ x := by omega
        have x2 : x ≤ 10000000000 := by omega
        clear f4 hx
        go_enter Tryz.func201, Tryz.ntmps201
        go_wp2_with fail
        refine (P1.out _).mono ?_
        rintro e w' ⟨rfl, rfl⟩
        go_wp2_with fail
        refine (C1.out _).mono ?_; rintro e w1 ⟨rfl, hb1⟩; obtain ⟨hc1, hf1⟩ := bcell hb1; have hs1 := hb1.size; (try simp at hs1); (try have hz10 : w.heap.size < w1.heap.size := by omega); (try have hz11 : w.heap.size + 1 < w1.heap.size := by omega); (try have hz12 : w.heap.size + 1 + 1 < w1.heap.size := by omega); (try have hz13 : w.heap.size + 1 + 1 + 1 < w1.heap.size := by omega); (try have hz14 : w.heap.size + 1 + 1 + 1 + 1 < w1.heap.size := by omega); (try have hz15 : w.heap.size + 1 + 1 + 1 + 1 + 1 < w1.heap.size := by omega)
        go_wp2_with fail
        refine (D1.out _).mono ?_; rintro e w2 ⟨rfl, hb2⟩; obtain ⟨hc2, hf2⟩ := bcell hb2; have hs2 := hb2.size; (try simp at hs2); (try have hz20 : w.heap.size < w2.heap.size := by omega); (try have hz21 : w.heap.size + 1 < w2.heap.size := by omega); (try have hz22 : w.heap.size + 1 + 1 < w2.heap.size := by omega); (try have hz23 : w.heap.size + 1 + 1 + 1 < w2.heap.size := by omega); (try have hz24 : w.heap.size + 1 + 1 + 1 + 1 < w2.heap.size := by omega); (try have hz25 : w.heap.size + 1 + 1 + 1 + 1 + 1 < w2.heap.size := by omega)
        go_wp2_with fail
        refine (D2.out _).mono ?_; rintro e w3 ⟨rfl, hb3⟩; obtain ⟨hc3, hf3⟩ := bcell hb3; have hs3 := hb3.size; (try simp at hs3); (try have hz30 : w.heap.size < w3.heap.size := by omega); (try have hz31 : w.heap.size + 1 < w3.heap.size := by omega); (try have hz32 : w.heap.size + 1 + 1 < w3.heap.size := by omega); (try have hz33 : w.heap.size + 1 + 1 + 1 < w3.heap.size := by omega); (try have hz34 : w.heap.size + 1 + 1 + 1 + 1 < w3.heap.size := by omega); (try have hz35 : w.heap.size + 1 + 1 + 1 + 1 + 1 < w3.heap.size := by omega)
        go_wp2_with fail
        refine (K.out _).mono ?_; rintro e w4 ⟨rfl, hb4⟩; obtain ⟨hc4, hf4⟩ := bcell hb4; have hs4 := hb4.size; (try simp at hs4); (try have hz40 : w.heap.size < w4.heap.size := by omega); (try have hz41 : w.heap.size + 1 < w4.heap.size := by omega); (try have hz42 : w.heap.size + 1 + 1 < w4.heap.size := by omega); (try have hz43 : w.heap.size + 1 + 1 + 1 < w4.heap.size := by omega); (try have hz44 : w.heap.size + 1 + 1 + 1 + 1 < w4.heap.size := by omega); (try have hz45 : w.heap.size + 1 + 1 + 1 + 1 + 1 < w4.heap.size := by omega)
        have hy1 : w3.heap.size < w4.heap.size := by omega
        go_wp2_with fail
        refine (T.out _).mono ?_; rintro e w5 ⟨rfl, hb5⟩; obtain ⟨hc5, hf5⟩ := bcell hb5; have hs5 := hb5.size; (try simp at hs5); (try have hz50 : w.heap.size < w5.heap.size := by omega); (try have hz51 : w.heap.size + 1 < w5.heap.size := by omega); (try have hz52 : w.heap.size + 1 + 1 < w5.heap.size := by omega); (try have hz53 : w.heap.size + 1 + 1 + 1 < w5.heap.size := by omega); (try have hz54 : w.heap.size + 1 + 1 + 1 + 1 < w5.heap.size := by omega); (try have hz55 : w.heap.size + 1 + 1 + 1 + 1 + 1 < w5.heap.size := by omega)
        have hy2 : w3.heap.size < w5.heap.size := by omega
        go_wp2_with fail
        refine bodyPost_ret (v := .tuple #[.agg #[.int .i64 (x), .int .i64 1], .int .i64 0]) (by simp (maxDischargeDepth := 8) [results, Tryz.results201, go_sem, *]) rfl ?_
        exact ⟨rfl, by ((repeat' (first | exact Below.refl _ _ | assumption | refine Below.setCell ?_ ?_ _ | refine bdrewN ?_ _ | refine Below.drew ?_ | refine Below.alloc ?_ ?_ _ | refine bbehind ?_ (by assumption) ?_)); all_goals first | (simp; done) | (simp; omega) | omega)⟩
      · rw [fracR_no (fun h => ht h.2.2)]
        have hne2 : (toldS ((valN F : Int)) 1 != l) = true := by simpa using ht
        have hne3 : (toldS ((valN F : Int)) 1 == l) = false := by simpa using ht
        have hne := (str_ne (toldS ((valN F : Int)) 1) l).trans hne2
        clear h1 h2 hc ht f3
        generalize toldS ((valN F : Int)) 1 = tl at *
        generalize hx : (valN F : Int) = x at *
        have x1 : 0 ≤ x := by omega
        have x2 : x ≤ 10000000000 := by omega
        clear f4 hx
        go_enter Tryz.func201, Tryz.ntmps201
        go_wp2_with fail
        refine (P1.out _).mono ?_
        rintro e w' ⟨rfl, rfl⟩
        go_wp2_with fail
        refine (C1.out _).mono ?_; rintro e w1 ⟨rfl, hb1⟩; obtain ⟨hc1, hf1⟩ := bcell hb1; have hs1 := hb1.size; (try simp at hs1); (try have hz10 : w.heap.size < w1.heap.size := by omega); (try have hz11 : w.heap.size + 1 < w1.heap.size := by omega); (try have hz12 : w.heap.size + 1 + 1 < w1.heap.size := by omega); (try have hz13 : w.heap.size + 1 + 1 + 1 < w1.heap.size := by omega); (try have hz14 : w.heap.size + 1 + 1 + 1 + 1 < w1.heap.size := by omega); (try have hz15 : w.heap.size + 1 + 1 + 1 + 1 + 1 < w1.heap.size := by omega)
        go_wp2_with fail
        refine (D1.out _).mono ?_; rintro e w2 ⟨rfl, hb2⟩; obtain ⟨hc2, hf2⟩ := bcell hb2; have hs2 := hb2.size; (try simp at hs2); (try have hz20 : w.heap.size < w2.heap.size := by omega); (try have hz21 : w.heap.size + 1 < w2.heap.size := by omega); (try have hz22 : w.heap.size + 1 + 1 < w2.heap.size := by omega); (try have hz23 : w.heap.size + 1 + 1 + 1 < w2.heap.size := by omega); (try have hz24 : w.heap.size + 1 + 1 + 1 + 1 < w2.heap.size := by omega); (try have hz25 : w.heap.size + 1 + 1 + 1 + 1 + 1 < w2.heap.size := by omega)
        go_wp2_with fail
        refine (D2.out _).mono ?_; rintro e w3 ⟨rfl, hb3⟩; obtain ⟨hc3, hf3⟩ := bcell hb3; have hs3 := hb3.size; (try simp at hs3); (try have hz30 : w.heap.size < w3.heap.size := by omega); (try have hz31 : w.heap.size + 1 < w3.heap.size := by omega); (try have hz32 : w.heap.size + 1 + 1 < w3.heap.size := by omega); (try have hz33 : w.heap.size + 1 + 1 + 1 < w3.heap.size := by omega); (try have hz34 : w.heap.size + 1 + 1 + 1 + 1 < w3.heap.size := by omega); (try have hz35 : w.heap.size + 1 + 1 + 1 + 1 + 1 < w3.heap.size := by omega)
        go_wp2_with fail
        refine (K.out _).mono ?_; rintro e w4 ⟨rfl, hb4⟩; obtain ⟨hc4, hf4⟩ := bcell hb4; have hs4 := hb4.size; (try simp at hs4); (try have hz40 : w.heap.size < w4.heap.size := by omega); (try have hz41 : w.heap.size + 1 < w4.heap.size := by omega); (try have hz42 : w.heap.size + 1 + 1 < w4.heap.size := by omega); (try have hz43 : w.heap.size + 1 + 1 + 1 < w4.heap.size := by omega); (try have hz44 : w.heap.size + 1 + 1 + 1 + 1 < w4.heap.size := by omega); (try have hz45 : w.heap.size + 1 + 1 + 1 + 1 + 1 < w4.heap.size := by omega)
        have hy1 : w3.heap.size < w4.heap.size := by omega
        go_wp2_with fail
        refine (T.out _).mono ?_; rintro e w5 ⟨rfl, hb5⟩; obtain ⟨hc5, hf5⟩ := bcell hb5; have hs5 := hb5.size; (try simp at hs5); (try have hz50 : w.heap.size < w5.heap.size := by omega); (try have hz51 : w.heap.size + 1 < w5.heap.size := by omega); (try have hz52 : w.heap.size + 1 + 1 < w5.heap.size := by omega); (try have hz53 : w.heap.size + 1 + 1 + 1 < w5.heap.size := by omega); (try have hz54 : w.heap.size + 1 + 1 + 1 + 1 < w5.heap.size := by omega); (try have hz55 : w.heap.size + 1 + 1 + 1 + 1 + 1 < w5.heap.size := by omega)
        have hy2 : w3.heap.size < w5.heap.size := by omega
        go_wp2_with fail
        refine bodyPost_ret (v := .tuple #[.agg #[.int .i64 0, .int .i64 0], .int .i64 1]) (by simp (maxDischargeDepth := 8) [results, Tryz.results201, go_sem, *]) rfl ?_
        exact ⟨rfl, by ((repeat' (first | exact Below.refl _ _ | assumption | refine Below.setCell ?_ ?_ _ | refine bdrewN ?_ _ | refine Below.drew ?_ | refine Below.alloc ?_ ?_ _ | refine bbehind ?_ (by assumption) ?_)); all_goals first | (simp; done) | (simp; omega) | omega)⟩
    · rw [fracR_no (fun h => hc h.2.1)]
      have hc' : (chk ((valN F : Int)) 1 != 0) = true := by simpa using hc
      clear h1 h2 hc f3
      generalize hq : chk ((valN F : Int)) 1 = cq at *
      clear hq
      generalize hx : (valN F : Int) = x at *
      have x1 : 0 ≤ x := by omega
      have x2 : x ≤ 10000000000 := by omega
      clear f4 hx
      go_enter Tryz.func201, Tryz.ntmps201
      go_wp2_with fail
      refine (P1.out _).mono ?_
      rintro e w' ⟨rfl, rfl⟩
      go_wp2_with fail
      refine (C1.out _).mono ?_; rintro e w1 ⟨rfl, hb1⟩; obtain ⟨hc1, hf1⟩ := bcell hb1; have hs1 := hb1.size; (try simp at hs1); (try have hz10 : w.heap.size < w1.heap.size := by omega); (try have hz11 : w.heap.size + 1 < w1.heap.size := by omega); (try have hz12 : w.heap.size + 1 + 1 < w1.heap.size := by omega); (try have hz13 : w.heap.size + 1 + 1 + 1 < w1.heap.size := by omega); (try have hz14 : w.heap.size + 1 + 1 + 1 + 1 < w1.heap.size := by omega); (try have hz15 : w.heap.size + 1 + 1 + 1 + 1 + 1 < w1.heap.size := by omega)
      go_wp2_with fail
      refine (D1.out _).mono ?_; rintro e w2 ⟨rfl, hb2⟩; obtain ⟨hc2, hf2⟩ := bcell hb2; have hs2 := hb2.size; (try simp at hs2); (try have hz20 : w.heap.size < w2.heap.size := by omega); (try have hz21 : w.heap.size + 1 < w2.heap.size := by omega); (try have hz22 : w.heap.size + 1 + 1 < w2.heap.size := by omega); (try have hz23 : w.heap.size + 1 + 1 + 1 < w2.heap.size := by omega); (try have hz24 : w.heap.size + 1 + 1 + 1 + 1 < w2.heap.size := by omega); (try have hz25 : w.heap.size + 1 + 1 + 1 + 1 + 1 < w2.heap.size := by omega)
      go_wp2_with fail
      refine (D2.out _).mono ?_; rintro e w3 ⟨rfl, hb3⟩; obtain ⟨hc3, hf3⟩ := bcell hb3; have hs3 := hb3.size; (try simp at hs3); (try have hz30 : w.heap.size < w3.heap.size := by omega); (try have hz31 : w.heap.size + 1 < w3.heap.size := by omega); (try have hz32 : w.heap.size + 1 + 1 < w3.heap.size := by omega); (try have hz33 : w.heap.size + 1 + 1 + 1 < w3.heap.size := by omega); (try have hz34 : w.heap.size + 1 + 1 + 1 + 1 < w3.heap.size := by omega); (try have hz35 : w.heap.size + 1 + 1 + 1 + 1 + 1 < w3.heap.size := by omega)
      go_wp2_with fail
      refine (K.out _).mono ?_; rintro e w4 ⟨rfl, hb4⟩; obtain ⟨hc4, hf4⟩ := bcell hb4; have hs4 := hb4.size; (try simp at hs4); (try have hz40 : w.heap.size < w4.heap.size := by omega); (try have hz41 : w.heap.size + 1 < w4.heap.size := by omega); (try have hz42 : w.heap.size + 1 + 1 < w4.heap.size := by omega); (try have hz43 : w.heap.size + 1 + 1 + 1 < w4.heap.size := by omega); (try have hz44 : w.heap.size + 1 + 1 + 1 + 1 < w4.heap.size := by omega); (try have hz45 : w.heap.size + 1 + 1 + 1 + 1 + 1 < w4.heap.size := by omega)
      have hy1 : w3.heap.size < w4.heap.size := by omega
      go_wp2_with fail
      refine bodyPost_ret (v := .tuple #[.agg #[.int .i64 0, .int .i64 0], .int .i64 1]) (by simp (maxDischargeDepth := 8) [results, Tryz.results201, go_sem, *]) rfl ?_
      exact ⟨rfl, by ((repeat' (first | exact Below.refl _ _ | assumption | refine Below.setCell ?_ ?_ _ | refine bdrewN ?_ _ | refine Below.drew ?_ | refine Below.alloc ?_ ?_ _ | refine bbehind ?_ (by assumption) ?_)); all_goals first | (simp; done) | (simp; omega) | omega)⟩

set_option maxRecDepth 100000 in
set_option maxHeartbeats 2000000 in
theorem parse_frac_pos (l : List UInt8) (w : World) (hl : l.length ≤ 100000) (hn : isNeg l = false) (hm : ¬ cutM (bodyOf l) = 46) (hm0 : ¬ cutM (bodyOf l) = 0) :
    Calls Tryz.prog 201 #[.string ⟨l.toArray⟩] w fun e w' => e = .returned (.tuple #[.agg #[.int .i64 (fracR l (cutF (bodyOf l)) (cutB (bodyOf l)) ((valN (cutF (bodyOf l)) : Int))).1, .int .i64 (fracR l (cutF (bodyOf l)) (cutB (bodyOf l)) ((valN (cutF (bodyOf l)) : Int))).2.1], .int .i64 (fracR l (cutF (bodyOf l)) (cutB (bodyOf l)) ((valN (cutF (bodyOf l)) : Int))).2.2]) ∧ Below w.heap.size w w' := by
  have P1 := Lib.hid (fun w => cutPrefix_any l w hl)
  have bl := bodyOf_len l
  have C1 := Lib.hid (fun w => cut_any (bodyOf l) w (by omega))
  have fl := cutF_len (bodyOf l)
  have cl := cutB_len (bodyOf l)
  have em : (((cutM (bodyOf l)).toNat : Int) == 46) = false := by
    have e : ((((cutM (bodyOf l)).toNat : Int) == 46) : Bool) = (cutM (bodyOf l) == 46) := u8_eq (cutM (bodyOf l)) 46 (by omega)
    rw [e]; simpa using hm
  have em0 : (((cutM (bodyOf l)).toNat : Int) == 0) = false := by
    have e : ((((cutM (bodyOf l)).toNat : Int) == 0) : Bool) = (cutM (bodyOf l) == 0) := u8_eq (cutM (bodyOf l)) 0 (by omega)
    rw [e]; simpa using hm0
  clear hm hm0
  generalize cutM (bodyOf l) = m at *
  have D1 := Lib.hid (fun w => digits_any (cutF (bodyOf l)) 10 w (by omega) (by omega))
  have D2 := Lib.hid (fun w => digits_any (cutB (bodyOf l)) 10 w (by omega) (by omega))
  generalize hB : bodyOf l = B at *
  generalize hF : cutF B = F at *
  generalize hG : cutB B = G at *
  clear hB hF hG bl fl cl
  cases h1 : (digR F 10).2 with
  | false =>
    rw [digR_false h1] at D1
    rw [fracR_no (by rw [h1]; simp)]
    clear h1
    generalize digR G 10 = dg at *
    go_enter Tryz.func201, Tryz.ntmps201
    go_wp2_with fail
    refine (P1.out _).mono ?_
    rintro e w' ⟨rfl, rfl⟩
    go_wp2_with fail
    refine (C1.out _).mono ?_; rintro e w1 ⟨rfl, hb1⟩; obtain ⟨hc1, hf1⟩ := bcell hb1; have hs1 := hb1.size; (try simp at hs1); (try have hz10 : w.heap.size < w1.heap.size := by omega); (try have hz11 : w.heap.size + 1 < w1.heap.size := by omega); (try have hz12 : w.heap.size + 1 + 1 < w1.heap.size := by omega); (try have hz13 : w.heap.size + 1 + 1 + 1 < w1.heap.size := by omega); (try have hz14 : w.heap.size + 1 + 1 + 1 + 1 < w1.heap.size := by omega); (try have hz15 : w.heap.size + 1 + 1 + 1 + 1 + 1 < w1.heap.size := by omega)
    go_wp2_with fail
    refine (D1.out _).mono ?_; rintro e w2 ⟨rfl, hb2⟩; obtain ⟨hc2, hf2⟩ := bcell hb2; have hs2 := hb2.size; (try simp at hs2); (try have hz20 : w.heap.size < w2.heap.size := by omega); (try have hz21 : w.heap.size + 1 < w2.heap.size := by omega); (try have hz22 : w.heap.size + 1 + 1 < w2.heap.size := by omega); (try have hz23 : w.heap.size + 1 + 1 + 1 < w2.heap.size := by omega); (try have hz24 : w.heap.size + 1 + 1 + 1 + 1 < w2.heap.size := by omega); (try have hz25 : w.heap.size + 1 + 1 + 1 + 1 + 1 < w2.heap.size := by omega)
    go_wp2_with fail
    refine (D2.out _).mono ?_; rintro e w3 ⟨rfl, hb3⟩; obtain ⟨hc3, hf3⟩ := bcell hb3; have hs3 := hb3.size; (try simp at hs3); (try have hz30 : w.heap.size < w3.heap.size := by omega); (try have hz31 : w.heap.size + 1 < w3.heap.size := by omega); (try have hz32 : w.heap.size + 1 + 1 < w3.heap.size := by omega); (try have hz33 : w.heap.size + 1 + 1 + 1 < w3.heap.size := by omega); (try have hz34 : w.heap.size + 1 + 1 + 1 + 1 < w3.heap.size := by omega); (try have hz35 : w.heap.size + 1 + 1 + 1 + 1 + 1 < w3.heap.size := by omega)
    go_wp2_with fail
    refine bodyPost_ret (v := .tuple #[.agg #[.int .i64 0, .int .i64 0], .int .i64 1]) (by simp (maxDischargeDepth := 8) [results, Tryz.results201, go_sem, *]) rfl ?_
    exact ⟨rfl, by ((repeat' (first | exact Below.refl _ _ | assumption | refine Below.setCell ?_ ?_ _ | refine bdrewN ?_ _ | refine Below.drew ?_ | refine Below.alloc ?_ ?_ _ | refine bbehind ?_ (by assumption) ?_)); all_goals first | (simp; done) | (simp; omega) | omega)⟩
  | true =>
    obtain ⟨⟨f1, f2⟩, f3⟩ := digR_true h1
    rw [digR_yes ⟨⟨f1, f2⟩, f3⟩] at D1
    have f4 := valN_bd f3 (by omega)
    cases h2 : (digR G 10).2 with
    | false =>
      rw [digR_false h2] at D2
      rw [fracR_no (by rw [h2]; simp)]
      clear h1 h2
      generalize valN F = x at *
      go_enter Tryz.func201, Tryz.ntmps201
      go_wp2_with fail
      refine (P1.out _).mono ?_
      rintro e w' ⟨rfl, rfl⟩
      go_wp2_with fail
      refine (C1.out _).mono ?_; rintro e w1 ⟨rfl, hb1⟩; obtain ⟨hc1, hf1⟩ := bcell hb1; have hs1 := hb1.size; (try simp at hs1); (try have hz10 : w.heap.size < w1.heap.size := by omega); (try have hz11 : w.heap.size + 1 < w1.heap.size := by omega); (try have hz12 : w.heap.size + 1 + 1 < w1.heap.size := by omega); (try have hz13 : w.heap.size + 1 + 1 + 1 < w1.heap.size := by omega); (try have hz14 : w.heap.size + 1 + 1 + 1 + 1 < w1.heap.size := by omega); (try have hz15 : w.heap.size + 1 + 1 + 1 + 1 + 1 < w1.heap.size := by omega)
      go_wp2_with fail
      refine (D1.out _).mono ?_; rintro e w2 ⟨rfl, hb2⟩; obtain ⟨hc2, hf2⟩ := bcell hb2; have hs2 := hb2.size; (try simp at hs2); (try have hz20 : w.heap.size < w2.heap.size := by omega); (try have hz21 : w.heap.size + 1 < w2.heap.size := by omega); (try have hz22 : w.heap.size + 1 + 1 < w2.heap.size := by omega); (try have hz23 : w.heap.size + 1 + 1 + 1 < w2.heap.size := by omega); (try have hz24 : w.heap.size + 1 + 1 + 1 + 1 < w2.heap.size := by omega); (try have hz25 : w.heap.size + 1 + 1 + 1 + 1 + 1 < w2.heap.size := by omega)
      go_wp2_with fail
      refine (D2.out _).mono ?_; rintro e w3 ⟨rfl, hb3⟩; obtain ⟨hc3, hf3⟩ := bcell hb3; have hs3 := hb3.size; (try simp at hs3); (try have hz30 : w.heap.size < w3.heap.size := by omega); (try have hz31 : w.heap.size + 1 < w3.heap.size := by omega); (try have hz32 : w.heap.size + 1 + 1 < w3.heap.size := by omega); (try have hz33 : w.heap.size + 1 + 1 + 1 < w3.heap.size := by omega); (try have hz34 : w.heap.size + 1 + 1 + 1 + 1 < w3.heap.size := by omega); (try have hz35 : w.heap.size + 1 + 1 + 1 + 1 + 1 < w3.heap.size := by omega)
      go_wp2_with fail
      refine bodyPost_ret (v := .tuple #[.agg #[.int .i64 0, .int .i64 0], .int .i64 1]) (by simp (maxDischargeDepth := 8) [results, Tryz.results201, go_sem, *]) rfl ?_
      exact ⟨rfl, by ((repeat' (first | exact Below.refl _ _ | assumption | refine Below.setCell ?_ ?_ _ | refine bdrewN ?_ _ | refine Below.drew ?_ | refine Below.alloc ?_ ?_ _ | refine bbehind ?_ (by assumption) ?_)); all_goals first | (simp; done) | (simp; omega) | omega)⟩
    | true =>
      obtain ⟨⟨b1, b2⟩, b3⟩ := digR_true h2
      rw [digR_yes ⟨⟨b1, b2⟩, b3⟩] at D2
      have b4 := valN_bd b3 (by omega)
      have K := Lib.hid (fun w => check_any ((valN F : Int)) (valN G : Int) w)
      by_cases hc : chk ((valN F : Int)) (valN G : Int) = 0
      · have T := Lib.hid (fun w => printed_any ((valN F : Int)) (valN G : Int) w (fit_of_chk hc))
        rw [hc] at K
        by_cases ht : toldS ((valN F : Int)) (valN G : Int) = l
        · rw [fracR_yes ⟨⟨h1, h2⟩, hc, ht⟩]
          rw [ht] at T
          have heq2 : (l != l) = false := by simp
          have heq := (str_ne l l).trans heq2
          clear h1 h2 hc ht f3 b3
          generalize hx : (valN F : Int) = x at *
          generalize hy : (valN G : Int) = y at *
          have x1 : 0 ≤ x := by omega
          have x2 : x ≤ 10000000000 := by omega
          clear f4 b4 hx hy
          go_enter Tryz.func201, Tryz.ntmps201
          go_wp2_with fail
          refine (P1.out _).mono ?_
          rintro e w' ⟨rfl, rfl⟩
          go_wp2_with fail
          refine (C1.out _).mono ?_; rintro e w1 ⟨rfl, hb1⟩; obtain ⟨hc1, hf1⟩ := bcell hb1; have hs1 := hb1.size; (try simp at hs1); (try have hz10 : w.heap.size < w1.heap.size := by omega); (try have hz11 : w.heap.size + 1 < w1.heap.size := by omega); (try have hz12 : w.heap.size + 1 + 1 < w1.heap.size := by omega); (try have hz13 : w.heap.size + 1 + 1 + 1 < w1.heap.size := by omega); (try have hz14 : w.heap.size + 1 + 1 + 1 + 1 < w1.heap.size := by omega); (try have hz15 : w.heap.size + 1 + 1 + 1 + 1 + 1 < w1.heap.size := by omega)
          go_wp2_with fail
          refine (D1.out _).mono ?_; rintro e w2 ⟨rfl, hb2⟩; obtain ⟨hc2, hf2⟩ := bcell hb2; have hs2 := hb2.size; (try simp at hs2); (try have hz20 : w.heap.size < w2.heap.size := by omega); (try have hz21 : w.heap.size + 1 < w2.heap.size := by omega); (try have hz22 : w.heap.size + 1 + 1 < w2.heap.size := by omega); (try have hz23 : w.heap.size + 1 + 1 + 1 < w2.heap.size := by omega); (try have hz24 : w.heap.size + 1 + 1 + 1 + 1 < w2.heap.size := by omega); (try have hz25 : w.heap.size + 1 + 1 + 1 + 1 + 1 < w2.heap.size := by omega)
          go_wp2_with fail
          refine (D2.out _).mono ?_; rintro e w3 ⟨rfl, hb3⟩; obtain ⟨hc3, hf3⟩ := bcell hb3; have hs3 := hb3.size; (try simp at hs3); (try have hz30 : w.heap.size < w3.heap.size := by omega); (try have hz31 : w.heap.size + 1 < w3.heap.size := by omega); (try have hz32 : w.heap.size + 1 + 1 < w3.heap.size := by omega); (try have hz33 : w.heap.size + 1 + 1 + 1 < w3.heap.size := by omega); (try have hz34 : w.heap.size + 1 + 1 + 1 + 1 < w3.heap.size := by omega); (try have hz35 : w.heap.size + 1 + 1 + 1 + 1 + 1 < w3.heap.size := by omega)
          go_wp2_with fail
          refine (K.out _).mono ?_; rintro e w4 ⟨rfl, hb4⟩; obtain ⟨hc4, hf4⟩ := bcell hb4; have hs4 := hb4.size; (try simp at hs4); (try have hz40 : w.heap.size < w4.heap.size := by omega); (try have hz41 : w.heap.size + 1 < w4.heap.size := by omega); (try have hz42 : w.heap.size + 1 + 1 < w4.heap.size := by omega); (try have hz43 : w.heap.size + 1 + 1 + 1 < w4.heap.size := by omega); (try have hz44 : w.heap.size + 1 + 1 + 1 + 1 < w4.heap.size := by omega); (try have hz45 : w.heap.size + 1 + 1 + 1 + 1 + 1 < w4.heap.size := by omega)
          have hy1 : w3.heap.size < w4.heap.size := by omega
          go_wp2_with fail
          refine (T.out _).mono ?_; rintro e w5 ⟨rfl, hb5⟩; obtain ⟨hc5, hf5⟩ := bcell hb5; have hs5 := hb5.size; (try simp at hs5); (try have hz50 : w.heap.size < w5.heap.size := by omega); (try have hz51 : w.heap.size + 1 < w5.heap.size := by omega); (try have hz52 : w.heap.size + 1 + 1 < w5.heap.size := by omega); (try have hz53 : w.heap.size + 1 + 1 + 1 < w5.heap.size := by omega); (try have hz54 : w.heap.size + 1 + 1 + 1 + 1 < w5.heap.size := by omega); (try have hz55 : w.heap.size + 1 + 1 + 1 + 1 + 1 < w5.heap.size := by omega)
          have hy2 : w3.heap.size < w5.heap.size := by omega
          go_wp2_with fail
          refine bodyPost_ret (v := .tuple #[.agg #[.int .i64 (x), .int .i64 y], .int .i64 0]) (by simp (maxDischargeDepth := 8) [results, Tryz.results201, go_sem, *]) rfl ?_
          exact ⟨rfl, by ((repeat' (first | exact Below.refl _ _ | assumption | refine Below.setCell ?_ ?_ _ | refine bdrewN ?_ _ | refine Below.drew ?_ | refine Below.alloc ?_ ?_ _ | refine bbehind ?_ (by assumption) ?_)); all_goals first | (simp; done) | (simp; omega) | omega)⟩
        · rw [fracR_no (fun h => ht h.2.2)]
          have hne2 : (toldS ((valN F : Int)) (valN G : Int) != l) = true := by simpa using ht
          have hne3 : (toldS ((valN F : Int)) (valN G : Int) == l) = false := by simpa using ht
          have hne := (str_ne (toldS ((valN F : Int)) (valN G : Int)) l).trans hne2
          clear h1 h2 hc ht f3 b3
          generalize toldS ((valN F : Int)) (valN G : Int) = tl at *
          generalize hx : (valN F : Int) = x at *
          generalize hy : (valN G : Int) = y at *
          have x1 : 0 ≤ x := by omega
          have x2 : x ≤ 10000000000 := by omega
          clear f4 b4 hx hy
          go_enter Tryz.func201, Tryz.ntmps201
          go_wp2_with fail
          refine (P1.out _).mono ?_
          rintro e w' ⟨rfl, rfl⟩
          go_wp2_with fail
          refine (C1.out _).mono ?_; rintro e w1 ⟨rfl, hb1⟩; obtain ⟨hc1, hf1⟩ := bcell hb1; have hs1 := hb1.size; (try simp at hs1); (try have hz10 : w.heap.size < w1.heap.size := by omega); (try have hz11 : w.heap.size + 1 < w1.heap.size := by omega); (try have hz12 : w.heap.size + 1 + 1 < w1.heap.size := by omega); (try have hz13 : w.heap.size + 1 + 1 + 1 < w1.heap.size := by omega); (try have hz14 : w.heap.size + 1 + 1 + 1 + 1 < w1.heap.size := by omega); (try have hz15 : w.heap.size + 1 + 1 + 1 + 1 + 1 < w1.heap.size := by omega)
          go_wp2_with fail
          refine (D1.out _).mono ?_; rintro e w2 ⟨rfl, hb2⟩; obtain ⟨hc2, hf2⟩ := bcell hb2; have hs2 := hb2.size; (try simp at hs2); (try have hz20 : w.heap.size < w2.heap.size := by omega); (try have hz21 : w.heap.size + 1 < w2.heap.size := by omega); (try have hz22 : w.heap.size + 1 + 1 < w2.heap.size := by omega); (try have hz23 : w.heap.size + 1 + 1 + 1 < w2.heap.size := by omega); (try have hz24 : w.heap.size + 1 + 1 + 1 + 1 < w2.heap.size := by omega); (try have hz25 : w.heap.size + 1 + 1 + 1 + 1 + 1 < w2.heap.size := by omega)
          go_wp2_with fail
          refine (D2.out _).mono ?_; rintro e w3 ⟨rfl, hb3⟩; obtain ⟨hc3, hf3⟩ := bcell hb3; have hs3 := hb3.size; (try simp at hs3); (try have hz30 : w.heap.size < w3.heap.size := by omega); (try have hz31 : w.heap.size + 1 < w3.heap.size := by omega); (try have hz32 : w.heap.size + 1 + 1 < w3.heap.size := by omega); (try have hz33 : w.heap.size + 1 + 1 + 1 < w3.heap.size := by omega); (try have hz34 : w.heap.size + 1 + 1 + 1 + 1 < w3.heap.size := by omega); (try have hz35 : w.heap.size + 1 + 1 + 1 + 1 + 1 < w3.heap.size := by omega)
          go_wp2_with fail
          refine (K.out _).mono ?_; rintro e w4 ⟨rfl, hb4⟩; obtain ⟨hc4, hf4⟩ := bcell hb4; have hs4 := hb4.size; (try simp at hs4); (try have hz40 : w.heap.size < w4.heap.size := by omega); (try have hz41 : w.heap.size + 1 < w4.heap.size := by omega); (try have hz42 : w.heap.size + 1 + 1 < w4.heap.size := by omega); (try have hz43 : w.heap.size + 1 + 1 + 1 < w4.heap.size := by omega); (try have hz44 : w.heap.size + 1 + 1 + 1 + 1 < w4.heap.size := by omega); (try have hz45 : w.heap.size + 1 + 1 + 1 + 1 + 1 < w4.heap.size := by omega)
          have hy1 : w3.heap.size < w4.heap.size := by omega
          go_wp2_with fail
          refine (T.out _).mono ?_; rintro e w5 ⟨rfl, hb5⟩; obtain ⟨hc5, hf5⟩ := bcell hb5; have hs5 := hb5.size; (try simp at hs5); (try have hz50 : w.heap.size < w5.heap.size := by omega); (try have hz51 : w.heap.size + 1 < w5.heap.size := by omega); (try have hz52 : w.heap.size + 1 + 1 < w5.heap.size := by omega); (try have hz53 : w.heap.size + 1 + 1 + 1 < w5.heap.size := by omega); (try have hz54 : w.heap.size + 1 + 1 + 1 + 1 < w5.heap.size := by omega); (try have hz55 : w.heap.size + 1 + 1 + 1 + 1 + 1 < w5.heap.size := by omega)
          have hy2 : w3.heap.size < w5.heap.size := by omega
          go_wp2_with fail
          refine bodyPost_ret (v := .tuple #[.agg #[.int .i64 0, .int .i64 0], .int .i64 1]) (by simp (maxDischargeDepth := 8) [results, Tryz.results201, go_sem, *]) rfl ?_
          exact ⟨rfl, by ((repeat' (first | exact Below.refl _ _ | assumption | refine Below.setCell ?_ ?_ _ | refine bdrewN ?_ _ | refine Below.drew ?_ | refine Below.alloc ?_ ?_ _ | refine bbehind ?_ (by assumption) ?_)); all_goals first | (simp; done) | (simp; omega) | omega)⟩
      · rw [fracR_no (fun h => hc h.2.1)]
        have hc' : (chk ((valN F : Int)) (valN G : Int) != 0) = true := by simpa using hc
        clear h1 h2 hc f3 b3
        generalize hq : chk ((valN F : Int)) (valN G : Int) = cq at *
        clear hq
        generalize hx : (valN F : Int) = x at *
        generalize hy : (valN G : Int) = y at *
        have x1 : 0 ≤ x := by omega
        have x2 : x ≤ 10000000000 := by omega
        clear f4 b4 hx hy
        go_enter Tryz.func201, Tryz.ntmps201
        go_wp2_with fail
        refine (P1.out _).mono ?_
        rintro e w' ⟨rfl, rfl⟩
        go_wp2_with fail
        refine (C1.out _).mono ?_; rintro e w1 ⟨rfl, hb1⟩; obtain ⟨hc1, hf1⟩ := bcell hb1; have hs1 := hb1.size; (try simp at hs1); (try have hz10 : w.heap.size < w1.heap.size := by omega); (try have hz11 : w.heap.size + 1 < w1.heap.size := by omega); (try have hz12 : w.heap.size + 1 + 1 < w1.heap.size := by omega); (try have hz13 : w.heap.size + 1 + 1 + 1 < w1.heap.size := by omega); (try have hz14 : w.heap.size + 1 + 1 + 1 + 1 < w1.heap.size := by omega); (try have hz15 : w.heap.size + 1 + 1 + 1 + 1 + 1 < w1.heap.size := by omega)
        go_wp2_with fail
        refine (D1.out _).mono ?_; rintro e w2 ⟨rfl, hb2⟩; obtain ⟨hc2, hf2⟩ := bcell hb2; have hs2 := hb2.size; (try simp at hs2); (try have hz20 : w.heap.size < w2.heap.size := by omega); (try have hz21 : w.heap.size + 1 < w2.heap.size := by omega); (try have hz22 : w.heap.size + 1 + 1 < w2.heap.size := by omega); (try have hz23 : w.heap.size + 1 + 1 + 1 < w2.heap.size := by omega); (try have hz24 : w.heap.size + 1 + 1 + 1 + 1 < w2.heap.size := by omega); (try have hz25 : w.heap.size + 1 + 1 + 1 + 1 + 1 < w2.heap.size := by omega)
        go_wp2_with fail
        refine (D2.out _).mono ?_; rintro e w3 ⟨rfl, hb3⟩; obtain ⟨hc3, hf3⟩ := bcell hb3; have hs3 := hb3.size; (try simp at hs3); (try have hz30 : w.heap.size < w3.heap.size := by omega); (try have hz31 : w.heap.size + 1 < w3.heap.size := by omega); (try have hz32 : w.heap.size + 1 + 1 < w3.heap.size := by omega); (try have hz33 : w.heap.size + 1 + 1 + 1 < w3.heap.size := by omega); (try have hz34 : w.heap.size + 1 + 1 + 1 + 1 < w3.heap.size := by omega); (try have hz35 : w.heap.size + 1 + 1 + 1 + 1 + 1 < w3.heap.size := by omega)
        go_wp2_with fail
        refine (K.out _).mono ?_; rintro e w4 ⟨rfl, hb4⟩; obtain ⟨hc4, hf4⟩ := bcell hb4; have hs4 := hb4.size; (try simp at hs4); (try have hz40 : w.heap.size < w4.heap.size := by omega); (try have hz41 : w.heap.size + 1 < w4.heap.size := by omega); (try have hz42 : w.heap.size + 1 + 1 < w4.heap.size := by omega); (try have hz43 : w.heap.size + 1 + 1 + 1 < w4.heap.size := by omega); (try have hz44 : w.heap.size + 1 + 1 + 1 + 1 < w4.heap.size := by omega); (try have hz45 : w.heap.size + 1 + 1 + 1 + 1 + 1 < w4.heap.size := by omega)
        have hy1 : w3.heap.size < w4.heap.size := by omega
        go_wp2_with fail
        refine bodyPost_ret (v := .tuple #[.agg #[.int .i64 0, .int .i64 0], .int .i64 1]) (by simp (maxDischargeDepth := 8) [results, Tryz.results201, go_sem, *]) rfl ?_
        exact ⟨rfl, by ((repeat' (first | exact Below.refl _ _ | assumption | refine Below.setCell ?_ ?_ _ | refine bdrewN ?_ _ | refine Below.drew ?_ | refine Below.alloc ?_ ?_ _ | refine bbehind ?_ (by assumption) ?_)); all_goals first | (simp; done) | (simp; omega) | omega)⟩

set_option maxRecDepth 100000 in
set_option maxHeartbeats 2000000 in
theorem parse_dec_neg (l : List UInt8) (w : World) (hl : l.length ≤ 100000) (hn : isNeg l = true) (hm : cutM (bodyOf l) = 46) :
    Calls Tryz.prog 201 #[.string ⟨l.toArray⟩] w fun e w' => e = .returned (.tuple #[.agg #[.int .i64 (decR (cutF (bodyOf l)) (cutB (bodyOf l)) (-1)).1, .int .i64 (decR (cutF (bodyOf l)) (cutB (bodyOf l)) (-1)).2.1], .int .i64 (decR (cutF (bodyOf l)) (cutB (bodyOf l)) (-1)).2.2]) ∧ Below w.heap.size w w' := by
  have P1 := Lib.hid (fun w => cutPrefix_any l w hl)
  have bl := bodyOf_len l
  have C1 := Lib.hid (fun w => cut_any (bodyOf l) w (by omega))
  have fl := cutF_len (bodyOf l)
  have cl := cutB_len (bodyOf l)
  have D1 := Lib.hid (fun w => parseDecimal_any (cutF (bodyOf l)) (cutB (bodyOf l)) (-1) w (by omega) (by omega) (by omega))
  rw [hm] at C1
  generalize decR (cutF (bodyOf l)) (cutB (bodyOf l)) (-1) = L at *
  generalize bodyOf l = B at *
  generalize cutF B = F at *
  generalize cutB B = G at *
  clear hm bl fl cl
  go_enter Tryz.func201, Tryz.ntmps201
  go_wp2_with fail
  refine (P1.out _).mono ?_
  rintro e w' ⟨rfl, rfl⟩
  go_wp2_with fail
  refine (C1.out _).mono ?_; rintro e w1 ⟨rfl, hb1⟩; obtain ⟨hc1, hf1⟩ := bcell hb1; have hs1 := hb1.size; (try simp at hs1); (try have hz10 : w.heap.size < w1.heap.size := by omega); (try have hz11 : w.heap.size + 1 < w1.heap.size := by omega); (try have hz12 : w.heap.size + 1 + 1 < w1.heap.size := by omega); (try have hz13 : w.heap.size + 1 + 1 + 1 < w1.heap.size := by omega); (try have hz14 : w.heap.size + 1 + 1 + 1 + 1 < w1.heap.size := by omega); (try have hz15 : w.heap.size + 1 + 1 + 1 + 1 + 1 < w1.heap.size := by omega)
  go_wp2_with fail
  refine (D1.out _).mono ?_; rintro e w2 ⟨rfl, hb2⟩; obtain ⟨hc2, hf2⟩ := bcell hb2; have hs2 := hb2.size; (try simp at hs2); (try have hz20 : w.heap.size < w2.heap.size := by omega); (try have hz21 : w.heap.size + 1 < w2.heap.size := by omega); (try have hz22 : w.heap.size + 1 + 1 < w2.heap.size := by omega); (try have hz23 : w.heap.size + 1 + 1 + 1 < w2.heap.size := by omega); (try have hz24 : w.heap.size + 1 + 1 + 1 + 1 < w2.heap.size := by omega); (try have hz25 : w.heap.size + 1 + 1 + 1 + 1 + 1 < w2.heap.size := by omega)
  go_wp2
  refine bodyPost_ret (v := .tuple #[.agg #[.int .i64 (L).1, .int .i64 (L).2.1], .int .i64 (L).2.2]) (by simp (maxDischargeDepth := 8) [results, Tryz.results201, go_sem, *]) rfl ?_
  exact ⟨rfl, by ((repeat' (first | exact Below.refl _ _ | assumption | refine Below.setCell ?_ ?_ _ | refine bdrewN ?_ _ | refine Below.drew ?_ | refine Below.alloc ?_ ?_ _ | refine bbehind ?_ (by assumption) ?_)); all_goals first | (simp; done) | (simp; omega) | omega)⟩

set_option maxRecDepth 100000 in
set_option maxHeartbeats 2000000 in
theorem parse_whole_neg (l : List UInt8) (w : World) (hl : l.length ≤ 100000) (hn : isNeg l = true) (hm : cutM (bodyOf l) = 0) :
    Calls Tryz.prog 201 #[.string ⟨l.toArray⟩] w fun e w' => e = .returned (.tuple #[.agg #[.int .i64 (fracR l (cutF (bodyOf l)) ([49]) (-(valN (cutF (bodyOf l)) : Int))).1, .int .i64 (fracR l (cutF (bodyOf l)) ([49]) (-(valN (cutF (bodyOf l)) : Int))).2.1], .int .i64 (fracR l (cutF (bodyOf l)) ([49]) (-(valN (cutF (bodyOf l)) : Int))).2.2]) ∧ Below w.heap.size w w' := by
  have P1 := Lib.hid (fun w => cutPrefix_any l w hl)
  have bl := bodyOf_len l
  have C1 := Lib.hid (fun w => cut_any (bodyOf l) w (by omega))
  have fl := cutF_len (bodyOf l)
  have cl := cutB_len (bodyOf l)
  rw [hm] at C1
  clear hm
  have D1 := Lib.hid (fun w => digits_any (cutF (bodyOf l)) 10 w (by omega) (by omega))
  have D2 := Lib.hid one_digit
  have h2 : (digR [49] 10).2 = true := by decide
  generalize hB : bodyOf l = B at *
  generalize hF : cutF B = F at *
  generalize hG : cutB B = G at *
  clear hB hF hG bl fl cl
  cases h1 : (digR F 10).2 with
  | false =>
    rw [digR_false h1] at D1
    rw [fracR_no (by rw [h1]; simp)]
    clear h1 h2
    go_enter Tryz.func201, Tryz.ntmps201
    go_wp2_with fail
    refine (P1.out _).mono ?_
    rintro e w' ⟨rfl, rfl⟩
    go_wp2_with fail
    refine (C1.out _).mono ?_; rintro e w1 ⟨rfl, hb1⟩; obtain ⟨hc1, hf1⟩ := bcell hb1; have hs1 := hb1.size; (try simp at hs1); (try have hz10 : w.heap.size < w1.heap.size := by omega); (try have hz11 : w.heap.size + 1 < w1.heap.size := by omega); (try have hz12 : w.heap.size + 1 + 1 < w1.heap.size := by omega); (try have hz13 : w.heap.size + 1 + 1 + 1 < w1.heap.size := by omega); (try have hz14 : w.heap.size + 1 + 1 + 1 + 1 < w1.heap.size := by omega); (try have hz15 : w.heap.size + 1 + 1 + 1 + 1 + 1 < w1.heap.size := by omega)
    go_wp2_with fail
    refine (D1.out _).mono ?_; rintro e w2 ⟨rfl, hb2⟩; obtain ⟨hc2, hf2⟩ := bcell hb2; have hs2 := hb2.size; (try simp at hs2); (try have hz20 : w.heap.size < w2.heap.size := by omega); (try have hz21 : w.heap.size + 1 < w2.heap.size := by omega); (try have hz22 : w.heap.size + 1 + 1 < w2.heap.size := by omega); (try have hz23 : w.heap.size + 1 + 1 + 1 < w2.heap.size := by omega); (try have hz24 : w.heap.size + 1 + 1 + 1 + 1 < w2.heap.size := by omega); (try have hz25 : w.heap.size + 1 + 1 + 1 + 1 + 1 < w2.heap.size := by omega)
    go_wp2_with fail
    refine (D2.out _).mono ?_; rintro e w3 ⟨rfl, hb3⟩; obtain ⟨hc3, hf3⟩ := bcell hb3; have hs3 := hb3.size; (try simp at hs3); (try have hz30 : w.heap.size < w3.heap.size := by omega); (try have hz31 : w.heap.size + 1 < w3.heap.size := by omega); (try have hz32 : w.heap.size + 1 + 1 < w3.heap.size := by omega); (try have hz33 : w.heap.size + 1 + 1 + 1 < w3.heap.size := by omega); (try have hz34 : w.heap.size + 1 + 1 + 1 + 1 < w3.heap.size := by omega); (try have hz35 : w.heap.size + 1 + 1 + 1 + 1 + 1 < w3.heap.size := by omega)
    go_wp2_with fail
    refine bodyPost_ret (v := .tuple #[.agg #[.int .i64 0, .int .i64 0], .int .i64 1]) (by simp (maxDischargeDepth := 8) [results, Tryz.results201, go_sem, *]) rfl ?_
    exact ⟨rfl, by ((repeat' (first | exact Below.refl _ _ | assumption | refine Below.setCell ?_ ?_ _ | refine bdrewN ?_ _ | refine Below.drew ?_ | refine Below.alloc ?_ ?_ _ | refine bbehind ?_ (by assumption) ?_)); all_goals first | (simp; done) | (simp; omega) | omega)⟩
  | true =>
    obtain ⟨⟨f1, f2⟩, f3⟩ := digR_true h1
    rw [digR_yes ⟨⟨f1, f2⟩, f3⟩] at D1
    have f4 := valN_bd f3 (by omega)
    have K := Lib.hid (fun w => check_any (-(valN F : Int)) 1 w)
    by_cases hc : chk (-(valN F : Int)) 1 = 0
    · have T := Lib.hid (fun w => printed_any (-(valN F : Int)) 1 w (fit_of_chk hc))
      rw [hc] at K
      by_cases ht : toldS (-(valN F : Int)) 1 = l
      · rw [fracR_yes ⟨⟨h1, h2⟩, hc, ht⟩]
        rw [ht] at T
        have heq2 : (l != l) = false := by simp
        have heq := (str_ne l l).trans heq2
        clear h1 h2 hc ht f3
        show Calls _ _ _ _ fun e w' => e = .returned (.tuple #[.agg #[.int .i64 (-(valN F : Int)), .int .i64 1], .int .i64 0]) ∧ _
        generalize hx : (valN F : Int) = x at *
        have x1 : 0 ≤ x := by omega
        have x2 : x ≤ 10000000000 := by omega
        clear f4 hx
        go_enter Tryz.func201, Tryz.ntmps201
        go_wp2_with fail
        refine (P1.out _).mono ?_
        rintro e w' ⟨rfl, rfl⟩
        go_wp2_with fail
        refine (C1.out _).mono ?_; rintro e w1 ⟨rfl, hb1⟩; obtain ⟨hc1, hf1⟩ := bcell hb1; have hs1 := hb1.size; (try simp at hs1); (try have hz10 : w.heap.size < w1.heap.size := by omega); (try have hz11 : w.heap.size + 1 < w1.heap.size := by omega); (try have hz12 : w.heap.size + 1 + 1 < w1.heap.size := by omega); (try have hz13 : w.heap.size + 1 + 1 + 1 < w1.heap.size := by omega); (try have hz14 : w.heap.size + 1 + 1 + 1 + 1 < w1.heap.size := by omega); (try have hz15 : w.heap.size + 1 + 1 + 1 + 1 + 1 < w1.heap.size := by omega)
        go_wp2_with fail
        refine (D1.out _).mono ?_; rintro e w2 ⟨rfl, hb2⟩; obtain ⟨hc2, hf2⟩ := bcell hb2; have hs2 := hb2.size; (try simp at hs2); (try have hz20 : w.heap.size < w2.heap.size := by omega); (try have hz21 : w.heap.size + 1 < w2.heap.size := by omega); (try have hz22 : w.heap.size + 1 + 1 < w2.heap.size := by omega); (try have hz23 : w.heap.size + 1 + 1 + 1 < w2.heap.size := by omega); (try have hz24 : w.heap.size + 1 + 1 + 1 + 1 < w2.heap.size := by omega); (try have hz25 : w.heap.size + 1 + 1 + 1 + 1 + 1 < w2.heap.size := by omega)
        go_wp2_with fail
        refine (D2.out _).mono ?_; rintro e w3 ⟨rfl, hb3⟩; obtain ⟨hc3, hf3⟩ := bcell hb3; have hs3 := hb3.size; (try simp at hs3); (try have hz30 : w.heap.size < w3.heap.size := by omega); (try have hz31 : w.heap.size + 1 < w3.heap.size := by omega); (try have hz32 : w.heap.size + 1 + 1 < w3.heap.size := by omega); (try have hz33 : w.heap.size + 1 + 1 + 1 < w3.heap.size := by omega); (try have hz34 : w.heap.size + 1 + 1 + 1 + 1 < w3.heap.size := by omega); (try have hz35 : w.heap.size + 1 + 1 + 1 + 1 + 1 < w3.heap.size := by omega)
        go_wp2_with fail
        refine (K.out _).mono ?_; rintro e w4 ⟨rfl, hb4⟩; obtain ⟨hc4, hf4⟩ := bcell hb4; have hs4 := hb4.size; (try simp at hs4); (try have hz40 : w.heap.size < w4.heap.size := by omega); (try have hz41 : w.heap.size + 1 < w4.heap.size := by omega); (try have hz42 : w.heap.size + 1 + 1 < w4.heap.size := by omega); (try have hz43 : w.heap.size + 1 + 1 + 1 < w4.heap.size := by omega); (try have hz44 : w.heap.size + 1 + 1 + 1 + 1 < w4.heap.size := by omega); (try have hz45 : w.heap.size + 1 + 1 + 1 + 1 + 1 < w4.heap.size := by omega)
        have hy1 : w3.heap.size < w4.heap.size := by omega
        go_wp2_with fail
        refine (T.out _).mono ?_; rintro e w5 ⟨rfl, hb5⟩; obtain ⟨hc5, hf5⟩ := bcell hb5; have hs5 := hb5.size; (try simp at hs5); (try have hz50 : w.heap.size < w5.heap.size := by omega); (try have hz51 : w.heap.size + 1 < w5.heap.size := by omega); (try have hz52 : w.heap.size + 1 + 1 < w5.heap.size := by omega); (try have hz53 : w.heap.size + 1 + 1 + 1 < w5.heap.size := by omega); (try have hz54 : w.heap.size + 1 + 1 + 1 + 1 < w5.heap.size := by omega); (try have hz55 : w.heap.size + 1 + 1 + 1 + 1 + 1 < w5.heap.size := by omega)
        have hy2 : w3.heap.size < w5.heap.size := by omega
        go_wp2_with fail
        refine bodyPost_ret (v := .tuple #[.agg #[.int .i64 (-x), .int .i64 1], .int .i64 0]) (by simp (maxDischargeDepth := 8) [results, Tryz.results201, go_sem, *]) rfl ?_
        exact ⟨rfl, by ((repeat' (first | exact Below.refl _ _ | assumption | refine Below.setCell ?_ ?_ _ | refine bdrewN ?_ _ | refine Below.drew ?_ | refine Below.alloc ?_ ?_ _ | refine bbehind ?_ (by assumption) ?_)); all_goals first | (simp; done) | (simp; omega) | omega)⟩
      · rw [fracR_no (fun h => ht h.2.2)]
        have hne2 : (toldS (-(valN F : Int)) 1 != l) = true := by simpa using ht
        have hne3 : (toldS (-(valN F : Int)) 1 == l) = false := by simpa using ht
        have hne := (str_ne (toldS (-(valN F : Int)) 1) l).trans hne2
        clear h1 h2 hc ht f3
        generalize toldS (-(valN F : Int)) 1 = tl at *
        generalize hx : (valN F : Int) = x at *
        have x1 : 0 ≤ x := by omega
        have x2 : x ≤ 10000000000 := by omega
        clear f4 hx
        go_enter Tryz.func201, Tryz.ntmps201
        go_wp2_with fail
        refine (P1.out _).mono ?_
        rintro e w' ⟨rfl, rfl⟩
        go_wp2_with fail
        refine (C1.out _).mono ?_; rintro e w1 ⟨rfl, hb1⟩; obtain ⟨hc1, hf1⟩ := bcell hb1; have hs1 := hb1.size; (try simp at hs1); (try have hz10 : w.heap.size < w1.heap.size := by omega); (try have hz11 : w.heap.size + 1 < w1.heap.size := by omega); (try have hz12 : w.heap.size + 1 + 1 < w1.heap.size := by omega); (try have hz13 : w.heap.size + 1 + 1 + 1 < w1.heap.size := by omega); (try have hz14 : w.heap.size + 1 + 1 + 1 + 1 < w1.heap.size := by omega); (try have hz15 : w.heap.size + 1 + 1 + 1 + 1 + 1 < w1.heap.size := by omega)
        go_wp2_with fail
        refine (D1.out _).mono ?_; rintro e w2 ⟨rfl, hb2⟩; obtain ⟨hc2, hf2⟩ := bcell hb2; have hs2 := hb2.size; (try simp at hs2); (try have hz20 : w.heap.size < w2.heap.size := by omega); (try have hz21 : w.heap.size + 1 < w2.heap.size := by omega); (try have hz22 : w.heap.size + 1 + 1 < w2.heap.size := by omega); (try have hz23 : w.heap.size + 1 + 1 + 1 < w2.heap.size := by omega); (try have hz24 : w.heap.size + 1 + 1 + 1 + 1 < w2.heap.size := by omega); (try have hz25 : w.heap.size + 1 + 1 + 1 + 1 + 1 < w2.heap.size := by omega)
        go_wp2_with fail
        refine (D2.out _).mono ?_; rintro e w3 ⟨rfl, hb3⟩; obtain ⟨hc3, hf3⟩ := bcell hb3; have hs3 := hb3.size; (try simp at hs3); (try have hz30 : w.heap.size < w3.heap.size := by omega); (try have hz31 : w.heap.size + 1 < w3.heap.size := by omega); (try have hz32 : w.heap.size + 1 + 1 < w3.heap.size := by omega); (try have hz33 : w.heap.size + 1 + 1 + 1 < w3.heap.size := by omega); (try have hz34 : w.heap.size + 1 + 1 + 1 + 1 < w3.heap.size := by omega); (try have hz35 : w.heap.size + 1 + 1 + 1 + 1 + 1 < w3.heap.size := by omega)
        go_wp2_with fail
        refine (K.out _).mono ?_; rintro e w4 ⟨rfl, hb4⟩; obtain ⟨hc4, hf4⟩ := bcell hb4; have hs4 := hb4.size; (try simp at hs4); (try have hz40 : w.heap.size < w4.heap.size := by omega); (try have hz41 : w.heap.size + 1 < w4.heap.size := by omega); (try have hz42 : w.heap.size + 1 + 1 < w4.heap.size := by omega); (try have hz43 : w.heap.size + 1 + 1 + 1 < w4.heap.size := by omega); (try have hz44 : w.heap.size + 1 + 1 + 1 + 1 < w4.heap.size := by omega); (try have hz45 : w.heap.size + 1 + 1 + 1 + 1 + 1 < w4.heap.size := by omega)
        have hy1 : w3.heap.size < w4.heap.size := by omega
        go_wp2_with fail
        refine (T.out _).mono ?_; rintro e w5 ⟨rfl, hb5⟩; obtain ⟨hc5, hf5⟩ := bcell hb5; have hs5 := hb5.size; (try simp at hs5); (try have hz50 : w.heap.size < w5.heap.size := by omega); (try have hz51 : w.heap.size + 1 < w5.heap.size := by omega); (try have hz52 : w.heap.size + 1 + 1 < w5.heap.size := by omega); (try have hz53 : w.heap.size + 1 + 1 + 1 < w5.heap.size := by omega); (try have hz54 : w.heap.size + 1 + 1 + 1 + 1 < w5.heap.size := by omega); (try have hz55 : w.heap.size + 1 + 1 + 1 + 1 + 1 < w5.heap.size := by omega)
        have hy2 : w3.heap.size < w5.heap.size := by omega
        go_wp2_with fail
        refine bodyPost_ret (v := .tuple #[.agg #[.int .i64 0, .int .i64 0], .int .i64 1]) (by simp (maxDischargeDepth := 8) [results, Tryz.results201, go_sem, *]) rfl ?_
        exact ⟨rfl, by ((repeat' (first | exact Below.refl _ _ | assumption | refine Below.setCell ?_ ?_ _ | refine bdrewN ?_ _ | refine Below.drew ?_ | refine Below.alloc ?_ ?_ _ | refine bbehind ?_ (by assumption) ?_)); all_goals first | (simp; done) | (simp; omega) | omega)⟩
    · rw [fracR_no (fun h => hc h.2.1)]
      have hc' : (chk (-(valN F : Int)) 1 != 0) = true := by simpa using hc
      clear h1 h2 hc f3
      generalize hq : chk (-(valN F : Int)) 1 = cq at *
      clear hq
      generalize hx : (valN F : Int) = x at *
      have x1 : 0 ≤ x := by omega
      have x2 : x ≤ 10000000000 := by omega
      clear f4 hx
      go_enter Tryz.func201, Tryz.ntmps201
      go_wp2_with fail
      refine (P1.out _).mono ?_
      rintro e w' ⟨rfl, rfl⟩
      go_wp2_with fail
      refine (C1.out _).mono ?_; rintro e w1 ⟨rfl, hb1⟩; obtain ⟨hc1, hf1⟩ := bcell hb1; have hs1 := hb1.size; (try simp at hs1); (try have hz10 : w.heap.size < w1.heap.size := by omega); (try have hz11 : w.heap.size + 1 < w1.heap.size := by omega); (try have hz12 : w.heap.size + 1 + 1 < w1.heap.size := by omega); (try have hz13 : w.heap.size + 1 + 1 + 1 < w1.heap.size := by omega); (try have hz14 : w.heap.size + 1 + 1 + 1 + 1 < w1.heap.size := by omega); (try have hz15 : w.heap.size + 1 + 1 + 1 + 1 + 1 < w1.heap.size := by omega)
      go_wp2_with fail
      refine (D1.out _).mono ?_; rintro e w2 ⟨rfl, hb2⟩; obtain ⟨hc2, hf2⟩ := bcell hb2; have hs2 := hb2.size; (try simp at hs2); (try have hz20 : w.heap.size < w2.heap.size := by omega); (try have hz21 : w.heap.size + 1 < w2.heap.size := by omega); (try have hz22 : w.heap.size + 1 + 1 < w2.heap.size := by omega); (try have hz23 : w.heap.size + 1 + 1 + 1 < w2.heap.size := by omega); (try have hz24 : w.heap.size + 1 + 1 + 1 + 1 < w2.heap.size := by omega); (try have hz25 : w.heap.size + 1 + 1 + 1 + 1 + 1 < w2.heap.size := by omega)
      go_wp2_with fail
      refine (D2.out _).mono ?_; rintro e w3 ⟨rfl, hb3⟩; obtain ⟨hc3, hf3⟩ := bcell hb3; have hs3 := hb3.size; (try simp at hs3); (try have hz30 : w.heap.size < w3.heap.size := by omega); (try have hz31 : w.heap.size + 1 < w3.heap.size := by omega); (try have hz32 : w.heap.size + 1 + 1 < w3.heap.size := by omega); (try have hz33 : w.heap.size + 1 + 1 + 1 < w3.heap.size := by omega); (try have hz34 : w.heap.size + 1 + 1 + 1 + 1 < w3.heap.size := by omega); (try have hz35 : w.heap.size + 1 + 1 + 1 + 1 + 1 < w3.heap.size := by omega)
      go_wp2_with fail
      refine (K.out _).mono ?_; rintro e w4 ⟨rfl, hb4⟩; obtain ⟨hc4, hf4⟩ := bcell hb4; have hs4 := hb4.size; (try simp at hs4); (try have hz40 : w.heap.size < w4.heap.size := by omega); (try have hz41 : w.heap.size + 1 < w4.heap.size := by omega); (try have hz42 : w.heap.size + 1 + 1 < w4.heap.size := by omega); (try have hz43 : w.heap.size + 1 + 1 + 1 < w4.heap.size := by omega); (try have hz44 : w.heap.size + 1 + 1 + 1 + 1 < w4.heap.size := by omega); (try have hz45 : w.heap.size + 1 + 1 + 1 + 1 + 1 < w4.heap.size := by omega)
      have hy1 : w3.heap.size < w4.heap.size := by omega
      go_wp2_with fail
      refine bodyPost_ret (v := .tuple #[.agg #[.int .i64 0, .int .i64 0], .int .i64 1]) (by simp (maxDischargeDepth := 8) [results, Tryz.results201, go_sem, *]) rfl ?_
      exact ⟨rfl, by ((repeat' (first | exact Below.refl _ _ | assumption | refine Below.setCell ?_ ?_ _ | refine bdrewN ?_ _ | refine Below.drew ?_ | refine Below.alloc ?_ ?_ _ | refine bbehind ?_ (by assumption) ?_)); all_goals first | (simp; done) | (simp; omega) | omega)⟩

set_option maxRecDepth 100000 in
set_option maxHeartbeats 2000000 in
theorem parse_frac_neg (l : List UInt8) (w : World) (hl : l.length ≤ 100000) (hn : isNeg l = true) (hm : ¬ cutM (bodyOf l) = 46) (hm0 : ¬ cutM (bodyOf l) = 0) :
    Calls Tryz.prog 201 #[.string ⟨l.toArray⟩] w fun e w' => e = .returned (.tuple #[.agg #[.int .i64 (fracR l (cutF (bodyOf l)) (cutB (bodyOf l)) (-(valN (cutF (bodyOf l)) : Int))).1, .int .i64 (fracR l (cutF (bodyOf l)) (cutB (bodyOf l)) (-(valN (cutF (bodyOf l)) : Int))).2.1], .int .i64 (fracR l (cutF (bodyOf l)) (cutB (bodyOf l)) (-(valN (cutF (bodyOf l)) : Int))).2.2]) ∧ Below w.heap.size w w' := by
  have P1 := Lib.hid (fun w => cutPrefix_any l w hl)
  have bl := bodyOf_len l
  have C1 := Lib.hid (fun w => cut_any (bodyOf l) w (by omega))
  have fl := cutF_len (bodyOf l)
  have cl := cutB_len (bodyOf l)
  have em : (((cutM (bodyOf l)).toNat : Int) == 46) = false := by
    have e : ((((cutM (bodyOf l)).toNat : Int) == 46) : Bool) = (cutM (bodyOf l) == 46) := u8_eq (cutM (bodyOf l)) 46 (by omega)
    rw [e]; simpa using hm
  have em0 : (((cutM (bodyOf l)).toNat : Int) == 0) = false := by
    have e : ((((cutM (bodyOf l)).toNat : Int) == 0) : Bool) = (cutM (bodyOf l) == 0) := u8_eq (cutM (bodyOf l)) 0 (by omega)
    rw [e]; simpa using hm0
  clear hm hm0
  generalize cutM (bodyOf l) = m at *
  have D1 := Lib.hid (fun w => digits_any (cutF (bodyOf l)) 10 w (by omega) (by omega))
  have D2 := Lib.hid (fun w => digits_any (cutB (bodyOf l)) 10 w (by omega) (by omega))
  generalize hB : bodyOf l = B at *
  generalize hF : cutF B = F at *
  generalize hG : cutB B = G at *
  clear hB hF hG bl fl cl
  cases h1 : (digR F 10).2 with
  | false =>
    rw [digR_false h1] at D1
    rw [fracR_no (by rw [h1]; simp)]
    clear h1
    generalize digR G 10 = dg at *
    go_enter Tryz.func201, Tryz.ntmps201
    go_wp2_with fail
    refine (P1.out _).mono ?_
    rintro e w' ⟨rfl, rfl⟩
    go_wp2_with fail
    refine (C1.out _).mono ?_; rintro e w1 ⟨rfl, hb1⟩; obtain ⟨hc1, hf1⟩ := bcell hb1; have hs1 := hb1.size; (try simp at hs1); (try have hz10 : w.heap.size < w1.heap.size := by omega); (try have hz11 : w.heap.size + 1 < w1.heap.size := by omega); (try have hz12 : w.heap.size + 1 + 1 < w1.heap.size := by omega); (try have hz13 : w.heap.size + 1 + 1 + 1 < w1.heap.size := by omega); (try have hz14 : w.heap.size + 1 + 1 + 1 + 1 < w1.heap.size := by omega); (try have hz15 : w.heap.size + 1 + 1 + 1 + 1 + 1 < w1.heap.size := by omega)
    go_wp2_with fail
    refine (D1.out _).mono ?_; rintro e w2 ⟨rfl, hb2⟩; obtain ⟨hc2, hf2⟩ := bcell hb2; have hs2 := hb2.size; (try simp at hs2); (try have hz20 : w.heap.size < w2.heap.size := by omega); (try have hz21 : w.heap.size + 1 < w2.heap.size := by omega); (try have hz22 : w.heap.size + 1 + 1 < w2.heap.size := by omega); (try have hz23 : w.heap.size + 1 + 1 + 1 < w2.heap.size := by omega); (try have hz24 : w.heap.size + 1 + 1 + 1 + 1 < w2.heap.size := by omega); (try have hz25 : w.heap.size + 1 + 1 + 1 + 1 + 1 < w2.heap.size := by omega)
    go_wp2_with fail
    refine (D2.out _).mono ?_; rintro e w3 ⟨rfl, hb3⟩; obtain ⟨hc3, hf3⟩ := bcell hb3; have hs3 := hb3.size; (try simp at hs3); (try have hz30 : w.heap.size < w3.heap.size := by omega); (try have hz31 : w.heap.size + 1 < w3.heap.size := by omega); (try have hz32 : w.heap.size + 1 + 1 < w3.heap.size := by omega); (try have hz33 : w.heap.size + 1 + 1 + 1 < w3.heap.size := by omega); (try have hz34 : w.heap.size + 1 + 1 + 1 + 1 < w3.heap.size := by omega); (try have hz35 : w.heap.size + 1 + 1 + 1 + 1 + 1 < w3.heap.size := by omega)
    go_wp2_with fail
    refine bodyPost_ret (v := .tuple #[.agg #[.int .i64 0, .int .i64 0], .int .i64 1]) (by simp (maxDischargeDepth := 8) [results, Tryz.results201, go_sem, *]) rfl ?_
    exact ⟨rfl, by ((repeat' (first | exact Below.refl _ _ | assumption | refine Below.setCell ?_ ?_ _ | refine bdrewN ?_ _ | refine Below.drew ?_ | refine Below.alloc ?_ ?_ _ | refine bbehind ?_ (by assumption) ?_)); all_goals first | (simp; done) | (simp; omega) | omega)⟩
  | true =>
    obtain ⟨⟨f1, f2⟩, f3⟩ := digR_true h1
    rw [digR_yes ⟨⟨f1, f2⟩, f3⟩] at D1
    have f4 := valN_bd f3 (by omega)
    cases h2 : (digR G 10).2 with
    | false =>
      rw [digR_false h2] at D2
      rw [fracR_no (by rw [h2]; simp)]
      clear h1 h2
      generalize valN F = x at *
      go_enter Tryz.func201, Tryz.ntmps201
      go_wp2_with fail
      refine (P1.out _).mono ?_
      rintro e w' ⟨rfl, rfl⟩
      go_wp2_with fail
      refine (C1.out _).mono ?_; rintro e w1 ⟨rfl, hb1⟩; obtain ⟨hc1, hf1⟩ := bcell hb1; have hs1 := hb1.size; (try simp at hs1); (try have hz10 : w.heap.size < w1.heap.size := by omega); (try have hz11 : w.heap.size + 1 < w1.heap.size := by omega); (try have hz12 : w.heap.size + 1 + 1 < w1.heap.size := by omega); (try have hz13 : w.heap.size + 1 + 1 + 1 < w1.heap.size := by omega); (try have hz14 : w.heap.size + 1 + 1 + 1 + 1 < w1.heap.size := by omega); (try have hz15 : w.heap.size + 1 + 1 + 1 + 1 + 1 < w1.heap.size := by omega)
      go_wp2_with fail
      refine (D1.out _).mono ?_; rintro e w2 ⟨rfl, hb2⟩; obtain ⟨hc2, hf2⟩ := bcell hb2; have hs2 := hb2.size; (try simp at hs2); (try have hz20 : w.heap.size < w2.heap.size := by omega); (try have hz21 : w.heap.size + 1 < w2.heap.size := by omega); (try have hz22 : w.heap.size + 1 + 1 < w2.heap.size := by omega); (try have hz23 : w.heap.size + 1 + 1 + 1 < w2.heap.size := by omega); (try have hz24 : w.heap.size + 1 + 1 + 1 + 1 < w2.heap.size := by omega); (try have hz25 : w.heap.size + 1 + 1 + 1 + 1 + 1 < w2.heap.size := by omega)
      go_wp2_with fail
      refine (D2.out _).mono ?_; rintro e w3 ⟨rfl, hb3⟩; obtain ⟨hc3, hf3⟩ := bcell hb3; have hs3 := hb3.size; (try simp at hs3); (try have hz30 : w.heap.size < w3.heap.size := by omega); (try have hz31 : w.heap.size + 1 < w3.heap.size := by omega); (try have hz32 : w.heap.size + 1 + 1 < w3.heap.size := by omega); (try have hz33 : w.heap.size + 1 + 1 + 1 < w3.heap.size := by omega); (try have hz34 : w.heap.size + 1 + 1 + 1 + 1 < w3.heap.size := by omega); (try have hz35 : w.heap.size + 1 + 1 + 1 + 1 + 1 < w3.heap.size := by omega)
      go_wp2_with fail
      refine bodyPost_ret (v := .tuple #[.agg #[.int .i64 0, .int .i64 0], .int .i64 1]) (by simp (maxDischargeDepth := 8) [results, Tryz.results201, go_sem, *]) rfl ?_
      exact ⟨rfl, by ((repeat' (first | exact Below.refl _ _ | assumption | refine Below.setCell ?_ ?_ _ | refine bdrewN ?_ _ | refine Below.drew ?_ | refine Below.alloc ?_ ?_ _ | refine bbehind ?_ (by assumption) ?_)); all_goals first | (simp; done) | (simp; omega) | omega)⟩
    | true =>
      obtain ⟨⟨b1, b2⟩, b3⟩ := digR_true h2
      rw [digR_yes ⟨⟨b1, b2⟩, b3⟩] at D2
      have b4 := valN_bd b3 (by omega)
      have K := Lib.hid (fun w => check_any (-(valN F : Int)) (valN G : Int) w)
      by_cases hc : chk (-(valN F : Int)) (valN G : Int) = 0
      · have T := Lib.hid (fun w => printed_any (-(valN F : Int)) (valN G : Int) w (fit_of_chk hc))
        rw [hc] at K
        by_cases ht : toldS (-(valN F : Int)) (valN G : Int) = l
        · rw [fracR_yes ⟨⟨h1, h2⟩, hc, ht⟩]
          rw [ht] at T
          have heq2 : (l != l) = false := by simp
          have heq := (str_ne l l).trans heq2
          clear h1 h2 hc ht f3 b3
          generalize hx : (valN F : Int) = x at *
          generalize hy : (valN G : Int) = y at *
          have x1 : 0 ≤ x := by omega
          have x2 : x ≤ 10000000000 := by omega
          clear f4 b4 hx hy
          go_enter Tryz.func201, Tryz.ntmps201
          go_wp2_with fail
          refine (P1.out _).mono ?_
          rintro e w' ⟨rfl, rfl⟩
          go_wp2_with fail
          refine (C1.out _).mono ?_; rintro e w1 ⟨rfl, hb1⟩; obtain ⟨hc1, hf1⟩ := bcell hb1; have hs1 := hb1.size; (try simp at hs1); (try have hz10 : w.heap.size < w1.heap.size := by omega); (try have hz11 : w.heap.size + 1 < w1.heap.size := by omega); (try have hz12 : w.heap.size + 1 + 1 < w1.heap.size := by omega); (try have hz13 : w.heap.size + 1 + 1 + 1 < w1.heap.size := by omega); (try have hz14 : w.heap.size + 1 + 1 + 1 + 1 < w1.heap.size := by omega); (try have hz15 : w.heap.size + 1 + 1 + 1 + 1 + 1 < w1.heap.size := by omega)
          go_wp2_with fail
          refine (D1.out _).mono ?_; rintro e w2 ⟨rfl, hb2⟩; obtain ⟨hc2, hf2⟩ := bcell hb2; have hs2 := hb2.size; (try simp at hs2); (try have hz20 : w.heap.size < w2.heap.size := by omega); (try have hz21 : w.heap.size + 1 < w2.heap.size := by omega); (try have hz22 : w.heap.size + 1 + 1 < w2.heap.size := by omega); (try have hz23 : w.heap.size + 1 + 1 + 1 < w2.heap.size := by omega); (try have hz24 : w.heap.size + 1 + 1 + 1 + 1 < w2.heap.size := by omega); (try have hz25 : w.heap.size + 1 + 1 + 1 + 1 + 1 < w2.heap.size := by omega)
          go_wp2_with fail
          refine (D2.out _).mono ?_; rintro e w3 ⟨rfl, hb3⟩; obtain ⟨hc3, hf3⟩ := bcell hb3; have hs3 := hb3.size; (try simp at hs3); (try have hz30 : w.heap.size < w3.heap.size := by omega); (try have hz31 : w.heap.size + 1 < w3.heap.size := by omega); (try have hz32 : w.heap.size + 1 + 1 < w3.heap.size := by omega); (try have hz33 : w.heap.size + 1 + 1 + 1 < w3.heap.size := by omega); (try have hz34 : w.heap.size + 1 + 1 + 1 + 1 < w3.heap.size := by omega); (try have hz35 : w.heap.size + 1 + 1 + 1 + 1 + 1 < w3.heap.size := by omega)
          go_wp2_with fail
          refine (K.out _).mono ?_; rintro e w4 ⟨rfl, hb4⟩; obtain ⟨hc4, hf4⟩ := bcell hb4; have hs4 := hb4.size; (try simp at hs4); (try have hz40 : w.heap.size < w4.heap.size := by omega); (try have hz41 : w.heap.size + 1 < w4.heap.size := by omega); (try have hz42 : w.heap.size + 1 + 1 < w4.heap.size := by omega); (try have hz43 : w.heap.size + 1 + 1 + 1 < w4.heap.size := by omega); (try have hz44 : w.heap.size + 1 + 1 + 1 + 1 < w4.heap.size := by omega); (try have hz45 : w.heap.size + 1 + 1 + 1 + 1 + 1 < w4.heap.size := by omega)
          have hy1 : w3.heap.size < w4.heap.size := by omega
          go_wp2_with fail
          refine (T.out _).mono ?_; rintro e w5 ⟨rfl, hb5⟩; obtain ⟨hc5, hf5⟩ := bcell hb5; have hs5 := hb5.size; (try simp at hs5); (try have hz50 : w.heap.size < w5.heap.size := by omega); (try have hz51 : w.heap.size + 1 < w5.heap.size := by omega); (try have hz52 : w.heap.size + 1 + 1 < w5.heap.size := by omega); (try have hz53 : w.heap.size + 1 + 1 + 1 < w5.heap.size := by omega); (try have hz54 : w.heap.size + 1 + 1 + 1 + 1 < w5.heap.size := by omega); (try have hz55 : w.heap.size + 1 + 1 + 1 + 1 + 1 < w5.heap.size := by omega)
          have hy2 : w3.heap.size < w5.heap.size := by omega
          go_wp2_with fail
          refine bodyPost_ret (v := .tuple #[.agg #[.int .i64 (-x), .int .i64 y], .int .i64 0]) (by simp (maxDischargeDepth := 8) [results, Tryz.results201, go_sem, *]) rfl ?_
          exact ⟨rfl, by ((repeat' (first | exact Below.refl _ _ | assumption | refine Below.setCell ?_ ?_ _ | refine bdrewN ?_ _ | refine Below.drew ?_ | refine Below.alloc ?_ ?_ _ | refine bbehind ?_ (by assumption) ?_)); all_goals first | (simp; done) | (simp; omega) | omega)⟩
        · rw [fracR_no (fun h => ht h.2.2)]
          have hne2 : (toldS (-(valN F : Int)) (valN G : Int) != l) = true := by simpa using ht
          have hne3 : (toldS (-(valN F : Int)) (valN G : Int) == l) = false := by simpa using ht
          have hne := (str_ne (toldS (-(valN F : Int)) (valN G : Int)) l).trans hne2
          clear h1 h2 hc ht f3 b3
          generalize toldS (-(valN F : Int)) (valN G : Int) = tl at *
          generalize hx : (valN F : Int) = x at *
          generalize hy : (valN G : Int) = y at *
          have x1 : 0 ≤ x := by omega
          have x2 : x ≤ 10000000000 := by omega
          clear f4 b4 hx hy
          go_enter Tryz.func201, Tryz.ntmps201
          go_wp2_with fail
          refine (P1.out _).mono ?_
          rintro e w' ⟨rfl, rfl⟩
          go_wp2_with fail
          refine (C1.out _).mono ?_; rintro e w1 ⟨rfl, hb1⟩; obtain ⟨hc1, hf1⟩ := bcell hb1; have hs1 := hb1.size; (try simp at hs1); (try have hz10 : w.heap.size < w1.heap.size := by omega); (try have hz11 : w.heap.size + 1 < w1.heap.size := by omega); (try have hz12 : w.heap.size + 1 + 1 < w1.heap.size := by omega); (try have hz13 : w.heap.size + 1 + 1 + 1 < w1.heap.size := by omega); (try have hz14 : w.heap.size + 1 + 1 + 1 + 1 < w1.heap.size := by omega); (try have hz15 : w.heap.size + 1 + 1 + 1 + 1 + 1 < w1.heap.size := by omega)
          go_wp2_with fail
          refine (D1.out _).mono ?_; rintro e w2 ⟨rfl, hb2⟩; obtain ⟨hc2, hf2⟩ := bcell hb2; have hs2 := hb2.size; (try simp at hs2); (try have hz20 : w.heap.size < w2.heap.size := by omega); (try have hz21 : w.heap.size + 1 < w2.heap.size := by omega); (try have hz22 : w.heap.size + 1 + 1 < w2.heap.size := by omega); (try have hz23 : w.heap.size + 1 + 1 + 1 < w2.heap.size := by omega); (try have hz24 : w.heap.size + 1 + 1 + 1 + 1 < w2.heap.size := by omega); (try have hz25 : w.heap.size + 1 + 1 + 1 + 1 + 1 < w2.heap.size := by omega)
          go_wp2_with fail
          refine (D2.out _).mono ?_; rintro e w3 ⟨rfl, hb3⟩; obtain ⟨hc3, hf3⟩ := bcell hb3; have hs3 := hb3.size; (try simp at hs3); (try have hz30 : w.heap.size < w3.heap.size := by omega); (try have hz31 : w.heap.size + 1 < w3.heap.size := by omega); (try have hz32 : w.heap.size + 1 + 1 < w3.heap.size := by omega); (try have hz33 : w.heap.size + 1 + 1 + 1 < w3.heap.size := by omega); (try have hz34 : w.heap.size + 1 + 1 + 1 + 1 < w3.heap.size := by omega); (try have hz35 : w.heap.size + 1 + 1 + 1 + 1 + 1 < w3.heap.size := by omega)
          go_wp2_with fail
          refine (K.out _).mono ?_; rintro e w4 ⟨rfl, hb4⟩; obtain ⟨hc4, hf4⟩ := bcell hb4; have hs4 := hb4.size; (try simp at hs4); (try have hz40 : w.heap.size < w4.heap.size := by omega); (try have hz41 : w.heap.size + 1 < w4.heap.size := by omega); (try have hz42 : w.heap.size + 1 + 1 < w4.heap.size := by omega); (try have hz43 : w.heap.size + 1 + 1 + 1 < w4.heap.size := by omega); (try have hz44 : w.heap.size + 1 + 1 + 1 + 1 < w4.heap.size := by omega); (try have hz45 : w.heap.size + 1 + 1 + 1 + 1 + 1 < w4.heap.size := by omega)
          have hy1 : w3.heap.size < w4.heap.size := by omega
          go_wp2_with fail
          refine (T.out _).mono ?_; rintro e w5 ⟨rfl, hb5⟩; obtain ⟨hc5, hf5⟩ := bcell hb5; have hs5 := hb5.size; (try simp at hs5); (try have hz50 : w.heap.size < w5.heap.size := by omega); (try have hz51 : w.heap.size + 1 < w5.heap.size := by omega); (try have hz52 : w.heap.size + 1 + 1 < w5.heap.size := by omega); (try have hz53 : w.heap.size + 1 + 1 + 1 < w5.heap.size := by omega); (try have hz54 : w.heap.size + 1 + 1 + 1 + 1 < w5.heap.size := by omega); (try have hz55 : w.heap.size + 1 + 1 + 1 + 1 + 1 < w5.heap.size := by omega)
          have hy2 : w3.heap.size < w5.heap.size := by omega
          go_wp2_with fail
          refine bodyPost_ret (v := .tuple #[.agg #[.int .i64 0, .int .i64 0], .int .i64 1]) (by simp (maxDischargeDepth := 8) [results, Tryz.results201, go_sem, *]) rfl ?_
          exact ⟨rfl, by ((repeat' (first | exact Below.refl _ _ | assumption | refine Below.setCell ?_ ?_ _ | refine bdrewN ?_ _ | refine Below.drew ?_ | refine Below.alloc ?_ ?_ _ | refine bbehind ?_ (by assumption) ?_)); all_goals first | (simp; done) | (simp; omega) | omega)⟩
      · rw [fracR_no (fun h => hc h.2.1)]
        have hc' : (chk (-(valN F : Int)) (valN G : Int) != 0) = true := by simpa using hc
        clear h1 h2 hc f3 b3
        generalize hq : chk (-(valN F : Int)) (valN G : Int) = cq at *
        clear hq
        generalize hx : (valN F : Int) = x at *
        generalize hy : (valN G : Int) = y at *
        have x1 : 0 ≤ x := by omega
        have x2 : x ≤ 10000000000 := by omega
        clear f4 b4 hx hy
        go_enter Tryz.func201, Tryz.ntmps201
        go_wp2_with fail
        refine (P1.out _).mono ?_
        rintro e w' ⟨rfl, rfl⟩
        go_wp2_with fail
        refine (C1.out _).mono ?_; rintro e w1 ⟨rfl, hb1⟩; obtain ⟨hc1, hf1⟩ := bcell hb1; have hs1 := hb1.size; (try simp at hs1); (try have hz10 : w.heap.size < w1.heap.size := by omega); (try have hz11 : w.heap.size + 1 < w1.heap.size := by omega); (try have hz12 : w.heap.size + 1 + 1 < w1.heap.size := by omega); (try have hz13 : w.heap.size + 1 + 1 + 1 < w1.heap.size := by omega); (try have hz14 : w.heap.size + 1 + 1 + 1 + 1 < w1.heap.size := by omega); (try have hz15 : w.heap.size + 1 + 1 + 1 + 1 + 1 < w1.heap.size := by omega)
        go_wp2_with fail
        refine (D1.out _).mono ?_; rintro e w2 ⟨rfl, hb2⟩; obtain ⟨hc2, hf2⟩ := bcell hb2; have hs2 := hb2.size; (try simp at hs2); (try have hz20 : w.heap.size < w2.heap.size := by omega); (try have hz21 : w.heap.size + 1 < w2.heap.size := by omega); (try have hz22 : w.heap.size + 1 + 1 < w2.heap.size := by omega); (try have hz23 : w.heap.size + 1 + 1 + 1 < w2.heap.size := by omega); (try have hz24 : w.heap.size + 1 + 1 + 1 + 1 < w2.heap.size := by omega); (try have hz25 : w.heap.size + 1 + 1 + 1 + 1 + 1 < w2.heap.size := by omega)
        go_wp2_with fail
        refine (D2.out _).mono ?_; rintro e w3 ⟨rfl, hb3⟩; obtain ⟨hc3, hf3⟩ := bcell hb3; have hs3 := hb3.size; (try simp at hs3); (try have hz30 : w.heap.size < w3.heap.size := by omega); (try have hz31 : w.heap.size + 1 < w3.heap.size := by omega); (try have hz32 : w.heap.size + 1 + 1 < w3.heap.size := by omega); (try have hz33 : w.heap.size + 1 + 1 + 1 < w3.heap.size := by omega); (try have hz34 : w.heap.size + 1 + 1 + 1 + 1 < w3.heap.size := by omega); (try have hz35 : w.heap.size + 1 + 1 + 1 + 1 + 1 < w3.heap.size := by omega)
        go_wp2_with fail
        refine (K.out _).mono ?_; rintro e w4 ⟨rfl, hb4⟩; obtain ⟨hc4, hf4⟩ := bcell hb4; have hs4 := hb4.size; (try simp at hs4); (try have hz40 : w.heap.size < w4.heap.size := by omega); (try have hz41 : w.heap.size + 1 < w4.heap.size := by omega); (try have hz42 : w.heap.size + 1 + 1 < w4.heap.size := by omega); (try have hz43 : w.heap.size + 1 + 1 + 1 < w4.heap.size := by omega); (try have hz44 : w.heap.size + 1 + 1 + 1 + 1 < w4.heap.size := by omega); (try have hz45 : w.heap.size + 1 + 1 + 1 + 1 + 1 < w4.heap.size := by omega)
        have hy1 : w3.heap.size < w4.heap.size := by omega
        go_wp2_with fail
        refine bodyPost_ret (v := .tuple #[.agg #[.int .i64 0, .int .i64 0], .int .i64 1]) (by simp (maxDischargeDepth := 8) [results, Tryz.results201, go_sem, *]) rfl ?_
        exact ⟨rfl, by ((repeat' (first | exact Below.refl _ _ | assumption | refine Below.setCell ?_ ?_ _ | refine bdrewN ?_ _ | refine Below.drew ?_ | refine Below.alloc ?_ ?_ _ | refine bbehind ?_ (by assumption) ?_)); all_goals first | (simp; done) | (simp; omega) | omega)⟩

theorem parse_any (l : List UInt8) (w : World) (hl : l.length ≤ 100000) :
    Calls Tryz.prog 201 #[.string ⟨l.toArray⟩] w fun e w' => e = .returned (.tuple #[.agg #[.int .i64 (parseT l).1, .int .i64 (parseT l).2.1], .int .i64 (parseT l).2.2]) ∧ Below w.heap.size w w' := by
  unfold parseT factorOf signed
  cases hn : isNeg l with
  | true =>
    by_cases hm : cutM (bodyOf l) = 46
    · rw [if_pos hm]; exact parse_dec_neg l w hl hn hm
    · rw [if_neg hm]
      by_cases hm0 : cutM (bodyOf l) = 0
      · rw [if_pos hm0]; exact parse_whole_neg l w hl hn hm0
      · rw [if_neg hm0]; exact parse_frac_neg l w hl hn hm hm0
  | false =>
    by_cases hm : cutM (bodyOf l) = 46
    · rw [if_pos hm]; exact parse_dec_pos l w hl hn hm
    · rw [if_neg hm]
      by_cases hm0 : cutM (bodyOf l) = 0
      · rw [if_pos hm0]; exact parse_whole_pos l w hl hn hm0
      · rw [if_neg hm0]; exact parse_frac_pos l w hl hn hm hm0
end Go.Proofs.YtcgedpfolloinaaGreat

namespace Go.Proofs.YtcgedpfolloinaaGreat
open Go.RowKit

/-- a string behind its first quote: its bytes, and the rest. -/
def qbP : List UInt8 → Option (List UInt8 × List UInt8)
  | [] => none
  | c :: t =>
    if c.toNat = 34 then some ([], t)
    else if c.toNat = 92 then
      match t with
      | [] => none
      | d :: u => if d.toNat = 34 ∨ d.toNat = 92 then (qbP u).map fun x => (d :: x.1, x.2) else none
    else if printB c = true then (qbP t).map fun x => (c :: x.1, x.2)
    else none
def quoP : List UInt8 → Option (List UInt8 × List UInt8)
  | [] => none
  | c :: t => if c.toNat = 34 then qbP t else none
theorem qbP_end {c : UInt8} {t : List UInt8} (h : c.toNat = 34) : qbP (c :: t) = some ([], t) := by
  rw [qbP.eq_def]; simp [h]
theorem qbP_esc {c d : UInt8} {u : List UInt8} (h : c.toNat = 92) (hd : d.toNat = 34 ∨ d.toNat = 92) : qbP (c :: d :: u) = (qbP u).map fun x => (d :: x.1, x.2) := by
  rw [qbP.eq_def]; simp [h, hd]
theorem qbP_esc_no {c d : UInt8} {u : List UInt8} (h : c.toNat = 92) (hd : ¬ (d.toNat = 34 ∨ d.toNat = 92)) : qbP (c :: d :: u) = none := by
  rw [qbP.eq_def]; simp only [h]; simp [hd]
theorem qbP_esc_nil {c : UInt8} (h : c.toNat = 92) : qbP [c] = none := by
  rw [qbP.eq_def]; simp [h]
theorem qbP_put {c : UInt8} {t : List UInt8} (h : c.toNat ≠ 34) (h2 : c.toNat ≠ 92) (hp : printB c = true) : qbP (c :: t) = (qbP t).map fun x => (c :: x.1, x.2) := by
  rw [qbP.eq_def]; simp [h, h2, hp]
theorem qbP_no {c : UInt8} {t : List UInt8} (h : c.toNat ≠ 34) (h2 : c.toNat ≠ 92) (hp : printB c = false) : qbP (c :: t) = none := by
  rw [qbP.eq_def]; simp [h, h2, hp]
theorem map_pre {a : List UInt8} {d : UInt8} (o : Option (List UInt8 × List UInt8)) : (o.map fun x => (d :: x.1, x.2)).map (fun x => (a ++ x.1, x.2)) = o.map fun x => ((a ++ [d]) ++ x.1, x.2) := by
  cases o <;> simp
theorem map_nil (o : Option (List UInt8 × List UInt8)) : o.map (fun x => (([] : List UInt8) ++ x.1, x.2)) = o := by
  cases o <;> simp
theorem qbP_len (l : List UInt8) : ∀ {s r : List UInt8}, qbP l = some (s, r) → s.length + r.length + 1 ≤ l.length := by
  induction hn : l.length using Nat.strongRecOn generalizing l with
  | ind n ih =>
    intro s r h
    cases l with
    | nil => simp [qbP] at h
    | cons c t =>
      by_cases h1 : c.toNat = 34
      · rw [qbP_end h1] at h; simp at h; obtain ⟨rfl, rfl⟩ := h; simp at hn ⊢; omega
      · by_cases h2 : c.toNat = 92
        · cases t with
          | nil => rw [qbP_esc_nil h2] at h; cases h
          | cons d u =>
            by_cases h3 : d.toNat = 34 ∨ d.toNat = 92
            · rw [qbP_esc h2 h3] at h
              simp only [Option.map_eq_some_iff, Prod.mk.injEq, Prod.exists] at h
              obtain ⟨s', r', h4, rfl, rfl⟩ := h
              have := ih u.length (by simp at hn; omega) u rfl h4
              simp at hn ⊢; omega
            · rw [qbP_esc_no h2 h3] at h; cases h
        · cases h3 : printB c with
          | true =>
            rw [qbP_put h1 h2 h3] at h
            simp only [Option.map_eq_some_iff, Prod.mk.injEq, Prod.exists] at h
            obtain ⟨s', r', h4, rfl, rfl⟩ := h
            have := ih t.length (by simp at hn; omega) t rfl h4
            simp at hn ⊢; omega
          | false => rw [qbP_no h1 h2 h3] at h; cases h
theorem quoP_yes {c : UInt8} {t : List UInt8} (h : c.toNat = 34) : quoP (c :: t) = qbP t := by unfold quoP; exact if_pos h
theorem quoP_no {c : UInt8} {t : List UInt8} (h : c.toNat ≠ 34) : quoP (c :: t) = none := by unfold quoP; exact if_neg h
theorem quoP_len {l s r : List UInt8} (h : quoP l = some (s, r)) : s.length + r.length + 2 ≤ l.length := by
  cases l with
  | nil => cases h
  | cons c t =>
    by_cases h1 : c.toNat = 34
    · have := qbP_len t ((quoP_yes h1).symm.trans h); simp; omega
    · rw [quoP_no h1] at h; cases h

/-- a number. -/
def numB (c : UInt8) : Bool := decide (45 ≤ c.toNat ∧ c.toNat ≤ 57) && decide (c.toNat ≠ 46)
def numLen (l : List UInt8) : Nat := l.findIdx (fun c => !numB c)
theorem numLen_le (l : List UInt8) : numLen l ≤ l.length := List.findIdx_le_length
def figP (l : List UInt8) : Option ((Int × Int) × List UInt8) :=
  let r := parseT (l.take (numLen l))
  if r.2.2 = 0 then some ((r.1, r.2.1), l.drop (numLen l)) else none

/-- a head without attributes. -/
def beginP (l : List UInt8) : Option (Hd × List UInt8) :=
  match l with
  | [] => none
  | c :: _ =>
    if c.toNat = 34 then (quoP l).map fun x => (⟨2, [], [], 0, 0, x.1⟩, x.2)
    else if c.toNat = 45 ∨ digitB c = true then (figP l).map fun x => (⟨1, [], [], x.1.1, x.1.2, []⟩, x.2)
    else if wordLen l = 0 then none else some (⟨0, l.take (wordLen l), [], 0, 0, []⟩, l.drop (wordLen l))
def attrP (l : List UInt8) : Option ((List UInt8 × List UInt8) × List UInt8) :=
  if wordLen l = 0 then none else
    match l.drop (wordLen l) with
    | c :: t => if c.toNat = 61 then (quoP t).map fun x => ((l.take (wordLen l), x.1), x.2) else none
    | [] => none
/-- more attributes, so many rounds at most. -/
def attrsP : Nat → List UInt8 → Option (List (List UInt8 × List UInt8) × List UInt8)
  | 0, l => some ([], l)
  | n + 1, l =>
    match l with
    | c :: t => if c.toNat = 44 then
        match attrP t with
        | none => none
        | some (a, r) => (attrsP n r).map fun x => (a :: x.1, x.2)
      else some ([], l)
    | [] => some ([], l)
def attributesP (l : List UInt8) : Option (List (List UInt8 × List UInt8) × List UInt8) :=
  match attrP l with
  | none => none
  | some (a, r) => (attrsP r.length r).map fun x => (a :: x.1, x.2)
/-- one byte, which has to be there. -/
def expP {α : Type} (c : Nat) (x : α) : List UInt8 → Option (α × List UInt8)
  | d :: t => if d.toNat = c then some (x, t) else none
  | [] => none
/-- the attributes of an element, if there are any. -/
def optA (l : List UInt8) : Option (List (List UInt8 × List UInt8) × List UInt8) :=
  match l with
  | c :: t => if c.toNat = 40 then (attributesP t).bind fun x => expP 41 x.1 x.2 else some ([], l)
  | [] => some ([], l)
def optK (F : List UInt8 → Option (Fo × List UInt8)) (l : List UInt8) : Option (Fo × List UInt8) :=
  match l with
  | c :: t => if c.toNat = 123 then (F t).bind fun x => expP 125 x.1 x.2 else some (.nil, l)
  | [] => some (.nil, l)
def treeP (F : List UInt8 → Option (Fo × List UInt8)) (l : List UInt8) : Option ((Hd × Fo) × List UInt8) :=
  match beginP l with
  | none => none
  | some (h, r) =>
    if h.k = 0 then
      match optA r with
      | none => none
      | some (a, r') => (optK F r').map fun x => (({ h with ats := a }, x.1), x.2)
    else some ((h, .nil), r)
def restP (T : List UInt8 → Option ((Hd × Fo) × List UInt8)) : Nat → List UInt8 → Option (Fo × List UInt8)
  | 0, l => some (.nil, l)
  | n + 1, l =>
    match l with
    | c :: t => if c.toNat = 32 then
        match T t with
        | none => none
        | some (x, r) => (restP T n r).map fun y => (.cons x.1 x.2 y.1, y.2)
      else some (.nil, l)
    | [] => some (.nil, l)
def forestP : Nat → List UInt8 → Option (Fo × List UInt8)
  | 0, _ => none
  | n + 1, l =>
    match treeP (forestP n) l with
    | none => none
    | some (x, r) => (restP (treeP (forestP n)) r.length r).map fun y => (.cons x.1 x.2 y.1, y.2)
/-- the forest of a text, if it has the form of one. -/
def readP (l : List UInt8) : Option Fo :=
  match l with
  | [] => some .nil
  | _ => match forestP (l.length + 1) l with
    | some (f, []) => some f
    | _ => none
end Go.Proofs.YtcgedpfolloinaaGreat

namespace Go.Proofs.YtcgedpfolloinaaGreat
open Go.RowKit

/-- what a step of reading ends with: a value and the rest of the text, or a panic. -/
def Got {α : Type} (b : Nat) (w : World) (o : Option (α × List UInt8)) (V : α → World → Value → Prop) (e : Ending) (w' : World) : Prop :=
  match o with
  | some (x, t) => ∃ v, e = .returned v ∧ V x w' v ∧ Rd b t w w'
  | none => e = Ending.panicked [{ v := .iface 160 (.agg #[]), recovered := false }] ∧ ∃ t, Rd b t w w'
theorem Got.yes {α : Type} {b : Nat} {w : World} {o : Option (α × List UInt8)} {V : α → World → Value → Prop} {w' : World} {v : Value} {x : α} {t : List UInt8} (ho : o = some (x, t)) (hv : V x w' v) (hr : Rd b t w w') :
    Got b w o V (.returned v) w' := by subst ho; exact ⟨v, rfl, hv, hr⟩
theorem Got.no {α : Type} {b : Nat} {w : World} {o : Option (α × List UInt8)} {V : α → World → Value → Prop} {w' : World} {t : List UInt8} (ho : o = none) (hr : Rd b t w w') :
    Got b w o V (Ending.panicked [{ v := .iface 160 (.agg #[]), recovered := false }]) w' := by subst ho; exact ⟨rfl, t, hr⟩
theorem Got.take {α : Type} {b : Nat} {w : World} {o : Option (α × List UInt8)} {V : α → World → Value → Prop} {e : Ending} {w' : World} {x : α} {t : List UInt8} (h : Got b w o V e w') (ho : o = some (x, t)) :
    ∃ v, e = .returned v ∧ V x w' v ∧ Rd b t w w' := by subst ho; exact h
theorem Got.panic {α : Type} {b : Nat} {w : World} {o : Option (α × List UInt8)} {V : α → World → Value → Prop} {e : Ending} {w' : World} (h : Got b w o V e w') (ho : o = none) :
    e = Ending.panicked [{ v := .iface 160 (.agg #[]), recovered := false }] ∧ ∃ t, Rd b t w w' := by subst ho; exact h

theorem accept_not (b : Nat) (c : UInt8) (l : List UInt8) (w : World) (h : RdAt b l w) (hn : l.head? ≠ some c) :
    Calls Tryz.prog 166 #[.pointer (some ⟨b, 0, none⟩), .int .u8 c.toNat] w fun e w' => e = .returned (.bool false) ∧ w' = w := by
  cases l with
  | nil => exact accept_nil b c w h
  | cons d t => exact accept_other b c d t w h (fun e => hn (by simp [e]))
set_option maxRecDepth 100000 in
set_option maxHeartbeats 1000000 in
theorem expect_no (b : Nat) (c : UInt8) (l : List UInt8) (w : World) (h : RdAt b l w) (hn : l.head? ≠ some c) :
    Calls Tryz.prog 179 #[.pointer (some ⟨b, 0, none⟩), .int .u8 c.toNat] w fun e w' => e = Ending.panicked [{ v := .iface 160 (.agg #[]), recovered := false }] ∧ Below w.heap.size w w' := by
  have A := Lib.hid (accept_not b c l w h hn)
  clear h
  go_enter Tryz.func179, Tryz.ntmps179
  go_wp2_with fail
  refine A.out.mono ?_
  rintro e w1 ⟨rfl, rfl⟩
  go_wp2_with fail
  exact ⟨rfl, rfl, by ((repeat' (first | exact Below.refl _ _ | assumption | refine Below.setCell ?_ ?_ _ | refine bdrewN ?_ _ | refine Below.drew ?_ | refine Below.alloc ?_ ?_ _ | refine bbehind ?_ (by assumption) ?_)); all_goals first | (simp; done) | (simp; omega) | omega)⟩
set_option maxRecDepth 100000 in
set_option maxHeartbeats 1000000 in
theorem look_no (b : Nat) (w : World) (h : RdAt b [] w) :
    Calls Tryz.prog 184 #[.pointer (some ⟨b, 0, none⟩)] w fun e w' => e = Ending.panicked [{ v := .iface 160 (.agg #[]), recovered := false }] ∧ Below w.heap.size w w' := by
  have c0 := h.cell
  clear h
  go_enter Tryz.func184, Tryz.ntmps184
  go_wp2_with fail
  exact ⟨rfl, rfl, by ((repeat' (first | exact Below.refl _ _ | assumption | refine Below.setCell ?_ ?_ _ | refine bdrewN ?_ _ | refine Below.drew ?_ | refine Below.alloc ?_ ?_ _ | refine bbehind ?_ (by assumption) ?_)); all_goals first | (simp; done) | (simp; omega) | omega)⟩
set_option maxRecDepth 100000 in
set_option maxHeartbeats 1000000 in
theorem word_no (b : Nat) (l : List UInt8) (w : World) (h : RdAt b l w) (hl : l.length ≤ 1000000) (h0 : wordLen l = 0) :
    Calls Tryz.prog 187 #[.pointer (some ⟨b, 0, none⟩)] w fun e w' => e = Ending.panicked [{ v := .iface 160 (.agg #[]), recovered := false }] ∧ Below w.heap.size w w' := by
  have c0 := h.cell
  have f0 := h.frozen
  have WF := Lib.hid (wordAtFront_any l w hl)
  have ht : l.take 0 = [] := List.take_zero
  rw [h0, ht] at WF
  clear h h0 ht
  go_enter Tryz.func187, Tryz.ntmps187
  go_wp2_with fail
  refine WF.out.mono ?_
  rintro e w1 ⟨rfl, rfl⟩
  go_wp2_with fail
  exact ⟨rfl, rfl, by ((repeat' (first | exact Below.refl _ _ | assumption | refine Below.setCell ?_ ?_ _ | refine bdrewN ?_ _ | refine Below.drew ?_ | refine Below.alloc ?_ ?_ _ | refine bbehind ?_ (by assumption) ?_)); all_goals first | (simp; done) | (simp; omega) | omega)⟩
end Go.Proofs.YtcgedpfolloinaaGreat

namespace Go.Proofs.YtcgedpfolloinaaGreat
open Go.RowKit

def numSet : List UInt8 := [45, 47, 48, 49, 50, 51, 52, 53, 54, 55, 56, 57]
def numR (r : Nat) : Bool := decide (45 ≤ r ∧ r ≤ 57) && decide (r ≠ 46)

theorem runIndexByte (s : ByteArray) (c : Int) (w : World) : (callFunc 223 #[.string s, .int .u8 c]).run Tryz.prog w = .ok (.value (.int .i64 (firstIdx s c.toNat.toUInt8))) w := by
  rw [run_callFunc_indexByte Tryz.func223 (by kernel_rfl) (by kernel_rfl) (by kernel_rfl) (by kernel_rfl), run_indexByte_string]
  rfl

set_option maxRecDepth 100000 in
set_option maxHeartbeats 1000000 in
theorem indexByte_any (s : ByteArray) (c : Int) (w : World) :
    Calls Tryz.prog 211 #[.string s, .int .u8 c] w fun e w' => e = .returned (.int .i64 (firstIdx s c.toNat.toUInt8)) ∧ w' = w := by
  have H := runIndexByte s c
  go_enter Tryz.func211, Tryz.ntmps211
  go_wp2
  go_ret
  exact ⟨rfl, rfl⟩

set_option maxRecDepth 100000 in
set_option maxHeartbeats 1000000 in
theorem validRune_any (r : Nat) (w : World) (hr : r ≤ 1114111) (h128 : 128 ≤ r) :
    Calls Tryz.prog 212 #[.int .i32 r] w fun e w' => e = .returned (.bool (Utf8.valid r)) ∧ w' = w := by
  rw [validRune_eq]
  have d0 : decide ((0 : Int) ≤ (r : Int)) = true := by simp
  have d3 : decide ((r : Int) ≤ 1114111) = true := by simp; omega
  by_cases h1 : r < 55296
  · have d1 : decide ((r : Int) < 55296) = true := by simp; omega
    have HV := Lib.hid (show validRune r = true by simp [validRune]; omega)
    rw [HV.out]
    go_enter Tryz.func212, Tryz.ntmps212
    go_wp2
    go_ret
    exact ⟨rfl, rfl⟩
  · have d1 : decide ((r : Int) < 55296) = false := by simp; omega
    by_cases h2 : 57343 < r
    · have d2 : decide ((57343 : Int) < (r : Int)) = true := by simp; omega
      have HV := Lib.hid (show validRune r = true by simp [validRune]; omega)
      rw [HV.out]
      go_enter Tryz.func212, Tryz.ntmps212
      go_wp2
      go_ret
      exact ⟨rfl, rfl⟩
    · have d2 : decide ((57343 : Int) < (r : Int)) = false := by simp; omega
      have HV := Lib.hid (show validRune r = false by simp [validRune]; omega)
      rw [HV.out]
      go_enter Tryz.func212, Tryz.ntmps212
      go_wp2
      go_ret
      exact ⟨rfl, rfl⟩

set_option maxRecDepth 100000 in
set_option maxHeartbeats 2000000 in
theorem indexRune_low (r : Nat) (w : World) (hr : r < 128) :
    Calls Tryz.prog 206 #[.string ⟨numSet.toArray⟩, .int .i32 r] w fun e w' => e = .returned (.int .i64 (firstIdx ⟨numSet.toArray⟩ (r : Int).toNat.toUInt8)) ∧ w' = w := by
  have d0 : decide ((0 : Int) ≤ (r : Int)) = true := by simp
  have d1 : decide ((r : Int) < 128) = true := by simp; omega
  generalize hs : (⟨numSet.toArray⟩ : ByteArray) = s
  clear hs
  go_enter Tryz.func206, Tryz.ntmps206
  go_wp2_with fail
  refine (indexByte_any _ _ _).mono ?_
  rintro e w1 ⟨rfl, hw⟩
  obtain rfl := hw.symm
  go_wp2_with fail
  go_ret
  exact ⟨rfl, rfl⟩
end Go.Proofs.YtcgedpfolloinaaGreat

namespace Go.Proofs.YtcgedpfolloinaaGreat
open Go.RowKit

theorem numSet_low : ∀ b ∈ (⟨numSet.toArray⟩ : ByteArray).data.toList, b.toNat < 128 := by decide

set_option maxRecDepth 100000 in
set_option maxHeartbeats 2000000 in
theorem indexRune_bad (r : Nat) (w : World) (h128 : 128 ≤ r) (hr : r ≤ 1114111) (hne : r ≠ 65533) (hv : Utf8.valid r = false) :
    Calls Tryz.prog 206 #[.string ⟨numSet.toArray⟩, .int .i32 r] w fun e w' => e = .returned (.int .i64 (-1)) ∧ w' = w := by
  have d0 : decide ((0 : Int) ≤ (r : Int)) = true := by simp
  have d1 : decide ((r : Int) < 128) = false := by simp; omega
  have d2 : ((r : Int) == 65533) = false := by simp; omega
  have VR := Lib.hid (validRune_any r w hr h128)
  rw [hv] at VR
  generalize hs : (⟨numSet.toArray⟩ : ByteArray) = s
  clear hs hv
  go_enter Tryz.func206, Tryz.ntmps206
  go_wp2_with fail
  refine VR.out.mono ?_
  rintro e w1 ⟨rfl, hw⟩
  obtain rfl := hw.symm
  go_wp2_with fail
  go_ret
  exact ⟨rfl, rfl⟩

set_option maxRecDepth 100000 in
set_option maxHeartbeats 4000000 in
theorem indexRune_def (r n : Nat) (rs : ByteArray) (c : UInt8) (w : World) (h128 : 128 ≤ r) (hr : r ≤ 1114111) (hne : r ≠ 65533) (hv : Utf8.valid r = true) (he : Utf8.encode r = rs) (hn : n = 1 ∨ n = 2 ∨ n = 3) (hsz : rs.size = n + 1) (hc : rs[n]? = some c) (hc8 : 128 ≤ c.toNat) :
    Calls Tryz.prog 206 #[.string ⟨numSet.toArray⟩, .int .i32 r] w fun e w' => e = .returned (.int .i64 (-1)) ∧ Below w.heap.size w w' := by
  have d0 : decide ((0 : Int) ≤ (r : Int)) = true := by simp
  have d1 : decide ((r : Int) < 128) = false := by simp; omega
  have d2 : ((r : Int) == 65533) = false := by simp; omega
  have VR := Lib.hid (validRune_any r w hr h128)
  rw [hv] at VR
  obtain ⟨d, hd⟩ : ∃ d, numSet[n]? = some d ∧ d.toNat < 128 := by rcases hn with rfl | rfl | rfl <;> exact ⟨_, rfl, by decide⟩
  have hcd : ((d.toNat : Int) != (c.toNat : Int)) = true := by rw [bne_iff_ne]; omega
  have hsd : (⟨numSet.toArray⟩ : ByteArray)[n]? = some d := by rcases hn with rfl | rfl | rfl <;> exact hd.1
  have hss : (⟨numSet.toArray⟩ : ByteArray).size = 12 := rfl
  have HS := Lib.hid numSet_low
  have hn1 : n < rs.size := by omega
  have hn2 : n < (⟨numSet.toArray⟩ : ByteArray).size := by omega
  have hcn : rs[n] = c := by rw [getElem?_pos rs n hn1] at hc; exact Option.some.inj hc
  have hsn : (⟨numSet.toArray⟩ : ByteArray)[n] = d := by rw [getElem?_pos _ n hn2] at hsd; exact Option.some.inj hsd
  have hcd' : (((⟨numSet.toArray⟩ : ByteArray)[n].toNat : Int) != (rs[n].toNat : Int)) = true := by rw [hcn, hsn]; exact hcd
  have HC8 := Lib.hid (show 128 ≤ ((c.toNat : Int).toNat.toUInt8).toNat by simp; exact hc8)
  have hcv : ∀ W : World, (convert 21 9 (.int .i32 r)).run Tryz.prog W = .ok (.string rs) W := by
    intro W
    rw [run_convert_int_string W _ _ _ _ (by kernel_rfl) (by kernel_rfl), he]
  generalize hs : (⟨numSet.toArray⟩ : ByteArray) = s at *
  clear hs hv hd he
  rcases hn with rfl | rfl | rfl
  · go_enter Tryz.func206, Tryz.ntmps206
    go_wp2_with fail
    refine VR.out.mono ?_
    rintro e w1 ⟨rfl, hw⟩
    obtain rfl := hw.symm
    go_wp2_with fail
    go_step3
    go_wp2_with fail
    go_loopw [9] (fun v wr => v = .int .i64 1 ∧ Below w.heap.size w wr) (fun _ _ => 0)
    case atStart => exact ⟨rfl, Below.refl _ _⟩
    case round =>
      obtain ⟨rfl, hbw⟩ := hrel
      go_wp2_with fail
      go_step3
      go_wp2_with fail
      refine wp_region_quiet_all (fun w' => ∃ x : Lower _, w' = x.val) (by kernel_rfl) (by kernel_rfl) ⟨⟨_, (Below.refl _ _).drew⟩, rfl⟩ ?_
      repeat (go_big_quiet_step (fail))
      refine wpQuiet_nil ?_
      intro w2 hx2
      obtain ⟨x2, hx2⟩ := hx2
      have hb2 := x2.prop
      rw [← hx2] at hb2
      clear hx2 x2
      obtain ⟨hc2, hf2⟩ := bcell hb2
      have hs2 := hb2.size
      try simp at hs2
      try have hz20 : w.heap.size < w2.heap.size := by omega
      try have hz21 : w.heap.size + 1 < w2.heap.size := by omega
      try have hz22 : w.heap.size + 1 + 1 < w2.heap.size := by omega
      try have hz23 : w.heap.size + 1 + 1 + 1 < w2.heap.size := by omega
      try have hz24 : w.heap.size + 1 + 1 + 1 + 1 < w2.heap.size := by omega
      try have hz25 : w.heap.size + 1 + 1 + 1 + 1 + 1 < w2.heap.size := by omega
      try have hy1_2 : w1.heap.size < w2.heap.size := by omega
      go_wp2_with fail
      refine wp_region_quiet_tail (fun w' => ∃ x : Lower _, w' = x.val) 7 (by kernel_rfl) (by kernel_rfl) ⟨⟨_, (Below.refl _ _).drew⟩, rfl⟩ ?_
      simp only [List.take_succ_cons, List.take_zero, List.drop_succ_cons, List.drop_zero]
      repeat (go_big_quiet_step (fail))
      refine wpQuiet_nil ?_
      intro w3 hx3
      obtain ⟨x3, hx3⟩ := hx3
      have hb3 := x3.prop
      rw [← hx3] at hb3
      clear hx3 x3
      obtain ⟨hc3, hf3⟩ := bcell hb3
      have hs3 := hb3.size
      try simp at hs3
      try have hz30 : w.heap.size < w3.heap.size := by omega
      try have hz31 : w.heap.size + 1 < w3.heap.size := by omega
      try have hz32 : w.heap.size + 1 + 1 < w3.heap.size := by omega
      try have hz33 : w.heap.size + 1 + 1 + 1 < w3.heap.size := by omega
      try have hz34 : w.heap.size + 1 + 1 + 1 + 1 < w3.heap.size := by omega
      try have hz35 : w.heap.size + 1 + 1 + 1 + 1 + 1 < w3.heap.size := by omega
      try have hy1_3 : w1.heap.size < w3.heap.size := by omega
      try have hy2_3 : w2.heap.size < w3.heap.size := by omega
      go_wp2_with fail
      refine (indexByte_any _ _ _).mono ?_
      rintro e w4 ⟨rfl, hw⟩
      obtain rfl := hw.symm
      rw [firstIdx_ascii s _ _ _ HS.out HC8.out]
      go_wp2_with fail
      simp (config := { zetaDelta := true }) only [Exit.then, Exit.inBlock, Exit.noGoto_ret]
      go_ret
      exact ⟨rfl, (hbw.trans (hb2.mono hbw.size)).trans (hb3.mono (by have := hbw.size; omega))⟩
  · go_enter Tryz.func206, Tryz.ntmps206
    go_wp2_with fail
    refine VR.out.mono ?_
    rintro e w1 ⟨rfl, hw⟩
    obtain rfl := hw.symm
    go_wp2_with fail
    go_step3
    go_wp2_with fail
    go_loopw [9] (fun v wr => v = .int .i64 2 ∧ Below w.heap.size w wr) (fun _ _ => 0)
    case atStart => exact ⟨rfl, Below.refl _ _⟩
    case round =>
      obtain ⟨rfl, hbw⟩ := hrel
      go_wp2_with fail
      go_step3
      go_wp2_with fail
      refine wp_region_quiet_all (fun w' => ∃ x : Lower _, w' = x.val) (by kernel_rfl) (by kernel_rfl) ⟨⟨_, (Below.refl _ _).drew⟩, rfl⟩ ?_
      repeat (go_big_quiet_step (fail))
      refine wpQuiet_nil ?_
      intro w2 hx2
      obtain ⟨x2, hx2⟩ := hx2
      have hb2 := x2.prop
      rw [← hx2] at hb2
      clear hx2 x2
      obtain ⟨hc2, hf2⟩ := bcell hb2
      have hs2 := hb2.size
      try simp at hs2
      try have hz20 : w.heap.size < w2.heap.size := by omega
      try have hz21 : w.heap.size + 1 < w2.heap.size := by omega
      try have hz22 : w.heap.size + 1 + 1 < w2.heap.size := by omega
      try have hz23 : w.heap.size + 1 + 1 + 1 < w2.heap.size := by omega
      try have hz24 : w.heap.size + 1 + 1 + 1 + 1 < w2.heap.size := by omega
      try have hz25 : w.heap.size + 1 + 1 + 1 + 1 + 1 < w2.heap.size := by omega
      try have hy1_2 : w1.heap.size < w2.heap.size := by omega
      go_wp2_with fail
      refine wp_region_quiet_tail (fun w' => ∃ x : Lower _, w' = x.val) 7 (by kernel_rfl) (by kernel_rfl) ⟨⟨_, (Below.refl _ _).drew⟩, rfl⟩ ?_
      simp only [List.take_succ_cons, List.take_zero, List.drop_succ_cons, List.drop_zero]
      repeat (go_big_quiet_step (fail))
      refine wpQuiet_nil ?_
      intro w3 hx3
      obtain ⟨x3, hx3⟩ := hx3
      have hb3 := x3.prop
      rw [← hx3] at hb3
      clear hx3 x3
      obtain ⟨hc3, hf3⟩ := bcell hb3
      have hs3 := hb3.size
      try simp at hs3
      try have hz30 : w.heap.size < w3.heap.size := by omega
      try have hz31 : w.heap.size + 1 < w3.heap.size := by omega
      try have hz32 : w.heap.size + 1 + 1 < w3.heap.size := by omega
      try have hz33 : w.heap.size + 1 + 1 + 1 < w3.heap.size := by omega
      try have hz34 : w.heap.size + 1 + 1 + 1 + 1 < w3.heap.size := by omega
      try have hz35 : w.heap.size + 1 + 1 + 1 + 1 + 1 < w3.heap.size := by omega
      try have hy1_3 : w1.heap.size < w3.heap.size := by omega
      try have hy2_3 : w2.heap.size < w3.heap.size := by omega
      go_wp2_with fail
      refine (indexByte_any _ _ _).mono ?_
      rintro e w4 ⟨rfl, hw⟩
      obtain rfl := hw.symm
      rw [firstIdx_ascii s _ _ _ HS.out HC8.out]
      go_wp2_with fail
      simp (config := { zetaDelta := true }) only [Exit.then, Exit.inBlock, Exit.noGoto_ret]
      go_ret
      exact ⟨rfl, (hbw.trans (hb2.mono hbw.size)).trans (hb3.mono (by have := hbw.size; omega))⟩
  · go_enter Tryz.func206, Tryz.ntmps206
    go_wp2_with fail
    refine VR.out.mono ?_
    rintro e w1 ⟨rfl, hw⟩
    obtain rfl := hw.symm
    go_wp2_with fail
    go_step3
    go_wp2_with fail
    go_loopw [9] (fun v wr => v = .int .i64 3 ∧ Below w.heap.size w wr) (fun _ _ => 0)
    case atStart => exact ⟨rfl, Below.refl _ _⟩
    case round =>
      obtain ⟨rfl, hbw⟩ := hrel
      go_wp2_with fail
      go_step3
      go_wp2_with fail
      refine wp_region_quiet_all (fun w' => ∃ x : Lower _, w' = x.val) (by kernel_rfl) (by kernel_rfl) ⟨⟨_, (Below.refl _ _).drew⟩, rfl⟩ ?_
      repeat (go_big_quiet_step (fail))
      refine wpQuiet_nil ?_
      intro w2 hx2
      obtain ⟨x2, hx2⟩ := hx2
      have hb2 := x2.prop
      rw [← hx2] at hb2
      clear hx2 x2
      obtain ⟨hc2, hf2⟩ := bcell hb2
      have hs2 := hb2.size
      try simp at hs2
      try have hz20 : w.heap.size < w2.heap.size := by omega
      try have hz21 : w.heap.size + 1 < w2.heap.size := by omega
      try have hz22 : w.heap.size + 1 + 1 < w2.heap.size := by omega
      try have hz23 : w.heap.size + 1 + 1 + 1 < w2.heap.size := by omega
      try have hz24 : w.heap.size + 1 + 1 + 1 + 1 < w2.heap.size := by omega
      try have hz25 : w.heap.size + 1 + 1 + 1 + 1 + 1 < w2.heap.size := by omega
      try have hy1_2 : w1.heap.size < w2.heap.size := by omega
      go_wp2_with fail
      refine wp_region_quiet_tail (fun w' => ∃ x : Lower _, w' = x.val) 7 (by kernel_rfl) (by kernel_rfl) ⟨⟨_, (Below.refl _ _).drew⟩, rfl⟩ ?_
      simp only [List.take_succ_cons, List.take_zero, List.drop_succ_cons, List.drop_zero]
      repeat (go_big_quiet_step (fail))
      refine wpQuiet_nil ?_
      intro w3 hx3
      obtain ⟨x3, hx3⟩ := hx3
      have hb3 := x3.prop
      rw [← hx3] at hb3
      clear hx3 x3
      obtain ⟨hc3, hf3⟩ := bcell hb3
      have hs3 := hb3.size
      try simp at hs3
      try have hz30 : w.heap.size < w3.heap.size := by omega
      try have hz31 : w.heap.size + 1 < w3.heap.size := by omega
      try have hz32 : w.heap.size + 1 + 1 < w3.heap.size := by omega
      try have hz33 : w.heap.size + 1 + 1 + 1 < w3.heap.size := by omega
      try have hz34 : w.heap.size + 1 + 1 + 1 + 1 < w3.heap.size := by omega
      try have hz35 : w.heap.size + 1 + 1 + 1 + 1 + 1 < w3.heap.size := by omega
      try have hy1_3 : w1.heap.size < w3.heap.size := by omega
      try have hy2_3 : w2.heap.size < w3.heap.size := by omega
      go_wp2_with fail
      refine (indexByte_any _ _ _).mono ?_
      rintro e w4 ⟨rfl, hw⟩
      obtain rfl := hw.symm
      rw [firstIdx_ascii s _ _ _ HS.out HC8.out]
      go_wp2_with fail
      simp (config := { zetaDelta := true }) only [Exit.then, Exit.inBlock, Exit.noGoto_ret]
      go_ret
      exact ⟨rfl, (hbw.trans (hb2.mono hbw.size)).trans (hb3.mono (by have := hbw.size; omega))⟩

set_option maxRecDepth 100000 in
set_option maxHeartbeats 2000000 in
theorem indexRune_err (w : World) :
    Calls Tryz.prog 206 #[.string ⟨numSet.toArray⟩, .int .i32 65533] w fun e w' => e = .returned (.int .i64 (-1)) ∧ Below w.heap.size w w' := by
  have HS := Lib.hid numSet_low
  generalize hs : (⟨numSet.toArray⟩ : ByteArray) = s at *
  clear hs
  go_enter Tryz.func206, Tryz.ntmps206
  go_wp2_with fail
  go_loopw [] (fun wr => ∃ pos : Nat, wr.heap[w.heap.size]? = some (.stringIter s pos) ∧ Below w.heap.size w wr) (fun wr => s.size - wr.iterPos w.heap.size)
  case atStart => exact ⟨0, World.iter_heap w s 0, (Below.refl _ w).alloc (Nat.le_refl _) _⟩
  case round =>
    obtain ⟨pos, hit, hbw⟩ := hrel
    by_cases hp : pos < s.size
    · obtain ⟨c, hc⟩ : ∃ c, s[pos] = c := ⟨_, rfl⟩
      have hc8 : c.toNat < 128 := HS.out c (by rw [← hc]; exact Array.getElem_mem_toList (xs := s.data) hp)
      have hnx : ∀ ty, (Instr.next (.pointer (some ⟨w.heap.size, 0, none⟩)) true ty).run Tryz.prog wr = .ok (.tuple #[.bool true, .int .i64 pos, .int .i32 c.toNat]) (wr.iterAt w.heap.size s (pos + 1)) := by
        intro ty
        have := Lib.run_next_ascii_at (P := Tryz.prog) wr w.heap.size s pos ty hit hp (by rw [hc]; exact hc8)
        rw [hc] at this
        exact this
      have hit2 := Lib.iterAt_heap wr w.heap.size s pos (pos + 1) hit
      have hbw2 := Lib.below_iterAt hbw (k := w.heap.size) (Nat.le_refl _) s (pos + 1)
      have hit0 : wr.iterPos w.heap.size = pos := by simp [World.iterPos, hit]
      have hne : ((c.toNat : Int) == 65533) = false := by simp; omega
      generalize (wr.iterAt w.heap.size s (pos + 1)) = W2 at *
      clear hc hit hbw
      go_wp2_with fail
      go_roundw
      case rel => exact ⟨pos + 1, hit2, hbw2⟩
      case measure =>
        rw [hit0]
        simp only [World.iterPos, hit2]
        omega
    · have hnx : ∀ ty, (Instr.next (.pointer (some ⟨w.heap.size, 0, none⟩)) true ty).run Tryz.prog wr = .ok (.tuple #[.bool false]) wr := fun ty => Lib.run_next_end_at wr w.heap.size s pos ty hit hp
      go_wp2_with fail
      go_ret
      exact ⟨rfl, hbw⟩

theorem indexRune_high (r : Nat) (w : World) (h128 : 128 ≤ r) (hr : r ≤ 1114111) :
    Calls Tryz.prog 206 #[.string ⟨numSet.toArray⟩, .int .i32 r] w fun e w' => e = .returned (.int .i64 (-1)) ∧ Below w.heap.size w w' := by
  by_cases h1 : r = 65533
  · subst h1; exact indexRune_err w
  · cases hv : Utf8.valid r with
    | true =>
      obtain ⟨h2, h4, hc⟩ := encode_facts (r : Int) hv (by omega)
      obtain ⟨rs, hrs⟩ : ∃ rs, Utf8.encode (r : Int) = rs := ⟨_, rfl⟩
      rw [hrs] at h2 h4
      obtain ⟨n, hn⟩ : ∃ n, rs.size = n + 1 := ⟨rs.size - 1, by omega⟩
      have hlt : n < rs.size := by omega
      have hc8 : 128 ≤ (rs[n]'hlt).toNat := by
        have := hc (by rw [hrs]; omega)
        simp only [hrs, hn, Nat.add_sub_cancel] at this
        exact this
      exact indexRune_def r n rs (rs[n]'hlt) w h128 hr h1 hv hrs (by omega) hn (getElem?_pos rs n hlt) hc8
    | false => exact (indexRune_bad r w h128 hr h1 hv).mono fun e w' ⟨h, hw⟩ => ⟨h, hw ▸ Below.refl _ _⟩

theorem numSet_any (c : UInt8) : (numSet.any (· == c)) = numR c.toNat := by
  have e : ∀ k : UInt8, (k == c) = decide (k.toNat = c.toNat) := by
    intro k
    rw [Bool.eq_iff_iff]
    simp [UInt8.toNat_inj]
  simp only [numSet, List.any_cons, List.any_nil, e]
  unfold numR
  rw [Bool.eq_iff_iff]
  simp
  omega
set_option maxRecDepth 100000 in
set_option maxHeartbeats 2000000 in
theorem containsRune_any (r : Nat) (w : World) (hr : r ≤ 1114111) :
    Calls Tryz.prog 200 #[.string ⟨numSet.toArray⟩, .int .i32 r] w fun e w' => e = .returned (.bool (numR r)) ∧ Below w.heap.size w w' := by
  by_cases h : r < 128
  · have IR := Lib.hid (indexRune_low r w h)
    have HN := Lib.hid (show decide (0 ≤ firstIdx ⟨numSet.toArray⟩ (r : Int).toNat.toUInt8) = numR r by
      rw [firstIdx_nonneg]
      have := numSet_any (r : Int).toNat.toUInt8
      rw [show ((r : Int).toNat.toUInt8).toNat = r by simp; omega] at this
      exact this)
    generalize hs : (⟨numSet.toArray⟩ : ByteArray) = s at *
    clear hs h
    generalize firstIdx s (r : Int).toNat.toUInt8 = K at *
    go_enter Tryz.func200, Tryz.ntmps200
    go_wp2_with fail
    refine IR.out.mono ?_
    rintro e w1 ⟨rfl, hw⟩
    obtain rfl := hw.symm
    go_wp2_with fail
    go_ret
    exact ⟨ret_bool HN.out, Below.refl _ _⟩
  · have IR := Lib.hid (indexRune_high r w (by omega) hr)
    have HN := Lib.hid (show decide ((0 : Int) ≤ -1) = numR r by unfold numR; simp; omega)
    generalize hs : (⟨numSet.toArray⟩ : ByteArray) = s at *
    clear hs h
    go_enter Tryz.func200, Tryz.ntmps200
    go_wp2_with fail
    refine IR.out.mono ?_
    rintro e w1 ⟨rfl, hb⟩
    go_wp2_with fail
    go_ret
    exact ⟨ret_bool HN.out, hb⟩
set_option maxRecDepth 100000 in
set_option maxHeartbeats 2000000 in
theorem isNoNum_any (r : Nat) (w : World) (hr : r ≤ 1114111) :
    Calls Tryz.prog 199 #[.int .i32 r] w fun e w' => e = .returned (.bool (!numR r)) ∧ Below w.heap.size w w' := by
  have CR := Lib.hid (containsRune_any r w hr)
  rw [show (⟨numSet.toArray⟩ : ByteArray) = ⟨#[45, 47, 48, 49, 50, 51, 52, 53, 54, 55, 56, 57]⟩ from rfl] at CR
  go_enter Tryz.func199, Tryz.ntmps199
  go_wp2_with fail
  refine CR.out.mono ?_
  rintro e w1 ⟨rfl, hb⟩
  go_wp2_with fail
  go_ret
  exact ⟨rfl, hb⟩
end Go.Proofs.YtcgedpfolloinaaGreat
