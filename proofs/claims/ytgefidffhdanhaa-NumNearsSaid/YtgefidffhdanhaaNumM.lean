import Derived.Test.YtgefidffhdanhaaNumL
namespace Go.Proofs.Ytgefidffhdanhaa
open Go.RowKit Go.BigFrame

theorem below_only {B b : Nat} {w w1 w2 : World} (h : Below B w w1) (k : Only b w1 w2) (hB : B ≤ b) (hw : B ≤ w1.heap.size) : Below B w w2 := h.trans (only_below k hB hw)

/-- the text of a number. -/
def toldS (n d : Int) : List UInt8 := signText n (numText (n.natAbs : Int) 1 (if d = 1 then [] else 47 :: numText d 1 []))

theorem numText1 (n : Int) (l : List UInt8) : numText n 1 l = digs n.toNat ++ l := by unfold numText; rw [show (1 : Int).toNat = 1 from rfl, padS_one]
theorem numText1_len {n : Int} (l : List UInt8) (h : n ≤ 1000000000) : (numText n 1 l).length ≤ 10 + l.length := by
  rw [numText1, List.length_append]
  have := digs_len 9 n.toNat (by omega)
  omega
theorem signText_len (n : Int) (l : List UInt8) : (signText n l).length ≤ 1 + l.length := by unfold signText; split <;> simp <;> omega

set_option maxHeartbeats 2000000 in
theorem printed_any (n d : Int) (w : World) (f : Fit n d) :
    Calls Try.prog 111 #[.agg #[.int .i64 n, .int .i64 d]] w fun e w' => e = .returned (.string ⟨(toldS n d).toArray⟩) ∧ Below w.heap.size w w' := by
  obtain ⟨n1, n2, d1, d2⟩ := f
  unfold toldS
  by_cases hd : d = 1
  · subst hd
    rw [if_pos rfl]
    have l1 := numText1_len [] (n := (n.natAbs : Int)) (by omega)
    have l2 := signText_len n (numText (n.natAbs : Int) 1 [])
    simp only [List.length_nil] at l1
    generalize hL : signText n (numText (n.natAbs : Int) 1 []) = L at *
    have HL := Lib.hid hL; clear hL
    go_enter Try.func111, Try.ntmps111
    go_wp2_with fail
    refine (newWriter_any _).mono ?_
    rintro e w0 ⟨rfl, hb0, hw0⟩
    obtain ⟨hc0, hf0⟩ := bcell hb0
    have hs0 := hb0.size
    simp at hs0 hw0
    have hz0 : w.heap.size < w0.heap.size := by omega
    have c00 : w0.cell? ⟨w.heap.size, 0, none⟩ = some (.int .i64 n) := (hc0 _ _ (by simp)).trans (by simp [go_sem])
    have c01 : w0.cell? ⟨w.heap.size, 1, none⟩ = some (.int .i64 1) := (hc0 _ _ (by simp)).trans (by simp [go_sem])
    clear hc0 hf0
    have HW0 := Lib.hid hw0; clear hw0
    have hb00 : Below w.heap.size w w0 := bbehind ((Below.refl _ _).alloc (Nat.le_refl _) _) hb0 (by simp)
    have HB0 := Lib.hid hb00; clear hb00 hb0
    go_wp2_with fail
    refine (abs_any _ _ (by omega) (by omega)).mono ?_
    rintro e w' ⟨rfl, rfl⟩
    go_wp2_with fail
    refine (number_any _ _ _ _ _ HW0.out (by omega) (by omega) (by omega) (by omega) (by omega)).mono ?_
    rintro e w1 ⟨rfl, ho, hw⟩
    have hz1 : w.heap.size < w1.heap.size := by have := ho.size; omega
    have hb : Below w.heap.size w w1 := below_only HB0.out ho (by omega) (by omega)
    have c10 : w1.cell? ⟨w.heap.size, 0, none⟩ = some (.int .i64 n) := (only_cell ho (by omega) (by omega)).trans c00
    have c11 : w1.cell? ⟨w.heap.size, 1, none⟩ = some (.int .i64 1) := (only_cell ho (by omega) (by omega)).trans c01
    clear ho
    have HB1 := Lib.hid hb; clear hb
    have HW1 := Lib.hid hw; clear hw
    go_wp2_with fail
    refine (sign_any _ _ _ _ HW1.out (by omega)).mono ?_
    rintro e w2 ⟨rfl, ho, hw⟩
    have hz2 : w.heap.size < w2.heap.size := by have := ho.size; omega
    have hb : Below w.heap.size w w2 := below_only HB1.out ho (by omega) (by omega)
    clear ho
    have HB2 := Lib.hid hb; clear hb
    have HW2 := Lib.hid hw; clear hw
    go_wp2_with fail
    refine (text_any _ _ _ HW2.out).mono ?_
    rintro e wl ⟨rfl, hl⟩
    go_wp2
    go_ret
    exact ⟨by first | rfl | (rw [HL.out]; rfl), bbehind HB2.out hl (by omega)⟩
  · have hd' : (d != 1) = true := by simpa using hd
    rw [if_neg hd]
    clear hd
    have l0 := numText1_len [] (n := d) (by omega)
    have l1 := numText1_len (47 :: numText d 1 []) (n := (n.natAbs : Int)) (by omega)
    have l2 := signText_len n (numText (n.natAbs : Int) 1 (47 :: numText d 1 []))
    simp only [List.length_nil, List.length_cons] at l0 l1
    generalize hL : signText n (numText (n.natAbs : Int) 1 (47 :: numText d 1 [])) = L at *
    have HL := Lib.hid hL; clear hL
    go_enter Try.func111, Try.ntmps111
    go_wp2_with fail
    refine (newWriter_any _).mono ?_
    rintro e w0 ⟨rfl, hb0, hw0⟩
    obtain ⟨hc0, hf0⟩ := bcell hb0
    have hs0 := hb0.size
    simp at hs0 hw0
    have hz0 : w.heap.size < w0.heap.size := by omega
    have c00 : w0.cell? ⟨w.heap.size, 0, none⟩ = some (.int .i64 n) := (hc0 _ _ (by simp)).trans (by simp [go_sem])
    have c01 : w0.cell? ⟨w.heap.size, 1, none⟩ = some (.int .i64 d) := (hc0 _ _ (by simp)).trans (by simp [go_sem])
    clear hc0 hf0
    have HW0 := Lib.hid hw0; clear hw0
    have hb00 : Below w.heap.size w w0 := bbehind ((Below.refl _ _).alloc (Nat.le_refl _) _) hb0 (by simp)
    have HB0 := Lib.hid hb00; clear hb00 hb0
    go_wp2_with fail
    refine (number_any _ _ _ _ _ HW0.out (by omega) (by omega) (by omega) (by omega) (by omega)).mono ?_
    rintro e w1 ⟨rfl, ho, hw⟩
    have hz1 : w.heap.size < w1.heap.size := by have := ho.size; omega
    have hb : Below w.heap.size w w1 := below_only HB0.out ho (by omega) (by omega)
    have c10 : w1.cell? ⟨w.heap.size, 0, none⟩ = some (.int .i64 n) := (only_cell ho (by omega) (by omega)).trans c00
    have c11 : w1.cell? ⟨w.heap.size, 1, none⟩ = some (.int .i64 d) := (only_cell ho (by omega) (by omega)).trans c01
    clear ho
    have HB1 := Lib.hid hb; clear hb
    have HW1 := Lib.hid hw; clear hw
    go_wp2_with fail
    refine (put_int _ _ 47 47 _ rfl HW1.out (by omega)).mono ?_
    rintro e w2 ⟨rfl, ho, hw⟩
    have hz2 : w.heap.size < w2.heap.size := by have := ho.size; omega
    have hb : Below w.heap.size w w2 := below_only HB1.out ho (by omega) (by omega)
    have c20 : w2.cell? ⟨w.heap.size, 0, none⟩ = some (.int .i64 n) := (only_cell ho (by omega) (by omega)).trans c10
    have c21 : w2.cell? ⟨w.heap.size, 1, none⟩ = some (.int .i64 d) := (only_cell ho (by omega) (by omega)).trans c11
    clear ho
    have HB2 := Lib.hid hb; clear hb
    have HW2 := Lib.hid hw; clear hw
    go_wp2_with fail
    refine (abs_any _ _ (by omega) (by omega)).mono ?_
    rintro e w' ⟨rfl, rfl⟩
    go_wp2_with fail
    refine (number_any _ _ _ _ _ HW2.out (by omega) (by omega) (by omega) (by omega) (by first | omega | (simp only [List.length_cons]; omega))).mono ?_
    rintro e w3 ⟨rfl, ho, hw⟩
    have hz3 : w.heap.size < w3.heap.size := by have := ho.size; omega
    have hb : Below w.heap.size w w3 := below_only HB2.out ho (by omega) (by omega)
    have c30 : w3.cell? ⟨w.heap.size, 0, none⟩ = some (.int .i64 n) := (only_cell ho (by omega) (by omega)).trans c20
    have c31 : w3.cell? ⟨w.heap.size, 1, none⟩ = some (.int .i64 d) := (only_cell ho (by omega) (by omega)).trans c21
    clear ho
    have HB3 := Lib.hid hb; clear hb
    have HW3 := Lib.hid hw; clear hw
    go_wp2_with fail
    refine (sign_any _ _ _ _ HW3.out (by omega)).mono ?_
    rintro e w4 ⟨rfl, ho, hw⟩
    have hz4 : w.heap.size < w4.heap.size := by have := ho.size; omega
    have hb : Below w.heap.size w w4 := below_only HB3.out ho (by omega) (by omega)
    clear ho
    have HB4 := Lib.hid hb; clear hb
    have HW4 := Lib.hid hw; clear hw
    go_wp2_with fail
    refine (text_any _ _ _ HW4.out).mono ?_
    rintro e wl ⟨rfl, hl⟩
    go_wp2
    go_ret
    exact ⟨by first | rfl | (rw [HL.out]; rfl), bbehind HB4.out hl (by omega)⟩

def printE (n d : Int) : List UInt8 := if chk n d = 0 then toldS n d else []

set_option maxHeartbeats 1000000 in
theorem print_any (n d : Int) (w : World) :
    Calls Try.prog 56 #[.agg #[.int .i64 n, .int .i64 d]] w fun e w' => e = .returned (.tuple #[.string ⟨(printE n d).toArray⟩, .int .i64 (chk n d)]) ∧ Below w.heap.size w w' := by
  unfold printE
  by_cases hA : chk n d = 0
  · have hf := fit_of_chk hA
    rw [if_pos hA]
    have HA := Lib.hid hA
    go_enter Try.func56, Try.ntmps56
    go_wp2_with (first | (go_at_call 16; refine (check_any _ _ _).mono ?_; rintro e w1 ⟨rfl, hb1⟩; obtain ⟨hc1, hf1⟩ := bcell hb1; have hs1 := hb1.size; (try simp at hs1); (try have hz0 : w.heap.size < w1.heap.size := by omega); (try have hz1 : w.heap.size + 1 < w1.heap.size := by omega); (try have hz2 : w.heap.size + 1 + 1 < w1.heap.size := by omega); (try have hz3 : w.heap.size + 1 + 1 + 1 < w1.heap.size := by omega); (try have hz4 : w.heap.size + 1 + 1 + 1 + 1 < w1.heap.size := by omega); (try have hz5 : w.heap.size + 1 + 1 + 1 + 1 + 1 < w1.heap.size := by omega)) | (go_at_call 111; refine (printed_any _ _ _ hf).mono ?_; rintro e w1 ⟨rfl, hb1⟩; obtain ⟨hc1, hf1⟩ := bcell hb1; have hs1 := hb1.size; (try simp at hs1); (try have hz0 : w.heap.size < w1.heap.size := by omega); (try have hz1 : w.heap.size + 1 < w1.heap.size := by omega); (try have hz2 : w.heap.size + 1 + 1 < w1.heap.size := by omega); (try have hz3 : w.heap.size + 1 + 1 + 1 < w1.heap.size := by omega); (try have hz4 : w.heap.size + 1 + 1 + 1 + 1 < w1.heap.size := by omega); (try have hz5 : w.heap.size + 1 + 1 + 1 + 1 + 1 < w1.heap.size := by omega)))
    go_ret2
    exact ⟨by rw [HA.out]; rfl, by ((repeat' (first | exact Below.refl _ _ | assumption | refine Below.setCell ?_ ?_ _ | refine bdrewN ?_ _ | refine Below.drew ?_ | refine Below.alloc ?_ ?_ _ | refine bbehind ?_ (by assumption) ?_)); all_goals first | (simp; done) | (simp; omega) | omega)⟩
  · have hA' : (chk n d != 0) = true := by simpa using hA
    rw [if_neg hA]
    clear hA
    go_enter Try.func56, Try.ntmps56
    go_wp2_with (go_at_call 16; refine (check_any _ _ _).mono ?_; rintro e w1 ⟨rfl, hb1⟩; obtain ⟨hc1, hf1⟩ := bcell hb1; have hs1 := hb1.size; (try simp at hs1); (try have hz0 : w.heap.size < w1.heap.size := by omega); (try have hz1 : w.heap.size + 1 < w1.heap.size := by omega); (try have hz2 : w.heap.size + 1 + 1 < w1.heap.size := by omega); (try have hz3 : w.heap.size + 1 + 1 + 1 < w1.heap.size := by omega); (try have hz4 : w.heap.size + 1 + 1 + 1 + 1 < w1.heap.size := by omega); (try have hz5 : w.heap.size + 1 + 1 + 1 + 1 + 1 < w1.heap.size := by omega))
    go_ret2
    exact ⟨rfl, by ((repeat' (first | exact Below.refl _ _ | assumption | refine Below.setCell ?_ ?_ _ | refine bdrewN ?_ _ | refine Below.drew ?_ | refine Below.alloc ?_ ?_ _ | refine bbehind ?_ (by assumption) ?_)); all_goals first | (simp; done) | (simp; omega) | omega)⟩
end Go.Proofs.Ytgefidffhdanhaa
