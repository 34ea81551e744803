/- What terms stand for. -/
import Derived.Test.YtgefidffhdanhaaInts
import Derived.Test.YtgefidffhdanhaaMathI
import Derived.Test.YtgefidffhdanhaaNumS
namespace Go.Proofs.Ytgefidffhdanhaa
open Go.RowKit Go.BigFrame

set_option maxHeartbeats 400000 in
theorem term_ok (t : Int) (w : World) (h : -1000000000 ≤ t ∧ t ≤ 1000000000) :
    Calls Try.prog 128 #[.int .i64 t] w fun e w' => e = .returned (.agg #[.int .i64 t, .int .i64 1]) ∧ Below w.heap.size w w' := by
  obtain ⟨h1, h2⟩ := h
  go_enter Try.func128, Try.ntmps128
  go_wp2
  refine bodyPost_ret (v := .agg #[.int .i64 t, .int .i64 1]) (by simp (maxDischargeDepth := 8) [results, Try.results128, go_sem, *]) rfl ?_
  exact ⟨rfl, by ((repeat' (first | exact Below.refl _ _ | assumption | refine Below.setCell ?_ ?_ _ | refine bdrewN ?_ _ | refine Below.drew ?_ | refine Below.alloc ?_ ?_ _ | refine bbehind ?_ (by assumption) ?_)); all_goals first | (simp; done) | (simp; omega) | omega)⟩
set_option maxHeartbeats 400000 in
theorem term_no (t : Int) (w : World) (h : ¬ (-1000000000 ≤ t ∧ t ≤ 1000000000)) :
    Calls Try.prog 128 #[.int .i64 t] w fun e w' => e = .panicked [{ v := .iface 107 (.agg #[]), recovered := false }] ∧ Below w.heap.size w w' := by
  by_cases h1 : t < -1000000000
  · clear h
    go_enter Try.func128, Try.ntmps128
    go_wp2
    exact ⟨rfl, rfl, by ((repeat' (first | exact Below.refl _ _ | assumption | refine Below.setCell ?_ ?_ _ | refine bdrewN ?_ _ | refine Below.drew ?_ | refine Below.alloc ?_ ?_ _ | refine bbehind ?_ (by assumption) ?_)); all_goals first | (simp; done) | (simp; omega) | omega)⟩
  · have h2 : 1000000000 < t := by omega
    clear h
    go_enter Try.func128, Try.ntmps128
    go_wp2
    exact ⟨rfl, rfl, by ((repeat' (first | exact Below.refl _ _ | assumption | refine Below.setCell ?_ ?_ _ | refine bdrewN ?_ _ | refine Below.drew ?_ | refine Below.alloc ?_ ?_ _ | refine bbehind ?_ (by assumption) ?_)); all_goals first | (simp; done) | (simp; omega) | omega)⟩

/-- the cells of a list. -/
def CellsAt (w : World) (b off : Nat) (l : List Int) : Prop := ∀ k, k < l.length → w.cell? ⟨b, off + k, none⟩ = some (.int .i64 (l.getD k 0))
theorem cells_head {w : World} {b off : Nat} {t : Int} {r : List Int} (h : CellsAt w b off (t :: r)) : w.cell? ⟨b, off, none⟩ = some (.int .i64 t) := h 0 (by simp)
theorem cells_tail {w : World} {b off : Nat} {t : Int} {r : List Int} (h : CellsAt w b off (t :: r)) : CellsAt w b (off + 1) r := by
  intro k hk
  have := h (k + 1) (by simpa using hk)
  rw [show off + 1 + k = off + (k + 1) by omega]
  exact this
theorem cells_below {w w' : World} {b off : Nat} {l : List Int} (h : CellsAt w b off l) (hb : b < w.heap.size) (k : Below w.heap.size w w') : CellsAt w' b off l := by
  obtain ⟨hc, _⟩ := bcell k
  exact fun i hi => (hc _ _ hb).trans (h i hi)

set_option maxRecDepth 100000 in
set_option maxHeartbeats 1600000 in
theorem stands_any : ∀ (r : List Int) (t : Int) (b off cap : Nat) (w : World), Tail1 r → r.length + 1 ≤ cap → b < w.heap.size → CellsAt w b off (t :: r) → r.length ≤ 1000 →
    Calls Try.prog 110 #[.slice (some ⟨b, off, none⟩) (r.length + 1) cap] w fun e w' => e = powEnd (stand (t :: r)) ∧ Below w.heap.size w w'
  | [], t, b, off, cap, w, hT, hcap, hb, hc, hlen => by
    have c0 := cells_head hc
    by_cases ht : -1000000000 ≤ t ∧ t ≤ 1000000000
    · have HT := Lib.hid (fun w => term_ok t w ht)
      rw [stand_one ht, powEnd_ok]
      clear ht hc
      simp only [List.length_nil, Nat.zero_add] at hcap ⊢
      have hb1 : b < w.heap.size + 1 := by omega
      go_enter Try.func110, Try.ntmps110
      go_wp2_with fail
      refine (HT.out _).mono ?_; rintro e w2 ⟨rfl, hb2⟩; obtain ⟨hc2, hf2⟩ := bcell hb2; have hs2 := hb2.size; (try simp at hs2); (try have hz20 : w.heap.size < w2.heap.size := by omega); (try have hz21 : w.heap.size + 1 < w2.heap.size := by omega); (try have hz22 : w.heap.size + 1 + 1 < w2.heap.size := by omega); (try have hz23 : w.heap.size + 1 + 1 + 1 < w2.heap.size := by omega); (try have hz24 : w.heap.size + 1 + 1 + 1 + 1 < w2.heap.size := by omega); (try have hz25 : w.heap.size + 1 + 1 + 1 + 1 + 1 < w2.heap.size := by omega); (try have hy1_2 : w1.heap.size < w2.heap.size := by omega)
      go_wp2
      refine bodyPost_ret (v := .agg #[.int .i64 t, .int .i64 1]) (by simp (maxDischargeDepth := 8) [results, Try.results110, go_sem, *]) rfl ?_
      exact ⟨rfl, by ((repeat' (first | exact Below.refl _ _ | assumption | refine Below.setCell ?_ ?_ _ | refine bdrewN ?_ _ | refine Below.drew ?_ | refine Below.alloc ?_ ?_ _ | refine bbehind ?_ (by assumption) ?_)); all_goals first | (simp; done) | (simp; omega) | omega)⟩
    · have HT := Lib.hid (fun w => term_no t w ht)
      rw [stand_out ht, powEnd_no]
      clear ht hc
      simp only [List.length_nil, Nat.zero_add] at hcap ⊢
      go_enter Try.func110, Try.ntmps110
      go_wp2_with fail
      refine (HT.out _).mono ?_; rintro e w2 ⟨rfl, hb2⟩; obtain ⟨hc2, hf2⟩ := bcell hb2; have hs2 := hb2.size; (try simp at hs2); (try have hz20 : w.heap.size < w2.heap.size := by omega); (try have hz21 : w.heap.size + 1 < w2.heap.size := by omega); (try have hz22 : w.heap.size + 1 + 1 < w2.heap.size := by omega); (try have hz23 : w.heap.size + 1 + 1 + 1 < w2.heap.size := by omega); (try have hz24 : w.heap.size + 1 + 1 + 1 + 1 < w2.heap.size := by omega); (try have hz25 : w.heap.size + 1 + 1 + 1 + 1 + 1 < w2.heap.size := by omega); (try have hy1_2 : w1.heap.size < w2.heap.size := by omega)
      go_wp2
      exact ⟨rfl, rfl, by ((repeat' (first | exact Below.refl _ _ | assumption | refine Below.setCell ?_ ?_ _ | refine bdrewN ?_ _ | refine Below.drew ?_ | refine Below.alloc ?_ ?_ _ | refine bbehind ?_ (by assumption) ?_)); all_goals first | (simp; done) | (simp; omega) | omega)⟩
  | s :: r, t, b, off, cap, w, hT, hcap, hb, hc, hlen => by
    have c0 := cells_head hc
    have hct := cells_tail hc
    have hT2 : Tail1 r := fun x hx => hT x (by simp [hx])
    have hlen2 : r.length ≤ 1000 := by simp at hlen; omega
    have hcap2 : r.length + 1 ≤ cap - 1 := by simp at hcap; omega
    have IH := Lib.hid (fun w1 (hw : Below w.heap.size w w1) => stands_any r s b (off + 1) (cap - 1) w1 hT2 hcap2 (Nat.lt_of_lt_of_le hb hw.size) (cells_below hct hb hw) hlen2)
    have hcap3 : ¬ cap = 1 := by simp at hcap; omega
    have hcap4 : 1 ≤ cap := by omega
    simp only [List.length_cons] at hcap ⊢
    by_cases ht : -1000000000 ≤ t ∧ t ≤ 1000000000
    · have HT := Lib.hid (fun w => term_ok t w ht)
      rcases stand_is (s :: r) (by simp) hT with ⟨n, d, hs, hcn, hle⟩ | hs
      · have pd := den_pos hcn
        have fn := fit_of_chk hcn
        obtain ⟨f1, f2, f3, f4⟩ := fn
        have hn0 : ¬ n = 0 := by omega
        rw [hs, powEnd_ok] at IH
        have m := mul_bd9 (a := t) (b := n) ht.1 ht.2 f1 f2
        obtain ⟨m1, m2⟩ := m
        rw [stand_ok ht (by simp) hs]
        by_cases hok : lowOk (t * n + d) n = true
        · have HL := Lib.hid (fun w => lowest_ok (t * n + d) n w (by omega) (by omega) (by omega) (by omega) hn0 hok)
          rw [lowT_yes hok, powEnd_ok]
          clear ht hc hct hs hcn hT hok
          go_enter Try.func110, Try.ntmps110
          go_wp2_with fail
          refine (HT.out _).mono ?_; rintro e w2 ⟨rfl, hb2⟩; obtain ⟨hc2, hf2⟩ := bcell hb2; have hs2 := hb2.size; (try simp at hs2); (try have hz20 : w.heap.size < w2.heap.size := by omega); (try have hz21 : w.heap.size + 1 < w2.heap.size := by omega); (try have hz22 : w.heap.size + 1 + 1 < w2.heap.size := by omega); (try have hz23 : w.heap.size + 1 + 1 + 1 < w2.heap.size := by omega); (try have hz24 : w.heap.size + 1 + 1 + 1 + 1 < w2.heap.size := by omega); (try have hz25 : w.heap.size + 1 + 1 + 1 + 1 + 1 < w2.heap.size := by omega); (try have hy1_2 : w1.heap.size < w2.heap.size := by omega)
          go_wp2_with fail
          refine (IH.out _ (by ((repeat' (first | exact Below.refl _ _ | assumption | refine Below.setCell ?_ ?_ _ | refine bdrewN ?_ _ | refine Below.drew ?_ | refine Below.alloc ?_ ?_ _ | refine bbehind ?_ (by assumption) ?_)); all_goals first | (simp; done) | (simp; omega) | omega))).mono ?_; rintro e w3 ⟨rfl, hb3⟩; obtain ⟨hc3, hf3⟩ := bcell hb3; have hs3 := hb3.size; (try simp at hs3); (try have hz30 : w.heap.size < w3.heap.size := by omega); (try have hz31 : w.heap.size + 1 < w3.heap.size := by omega); (try have hz32 : w.heap.size + 1 + 1 < w3.heap.size := by omega); (try have hz33 : w.heap.size + 1 + 1 + 1 < w3.heap.size := by omega); (try have hz34 : w.heap.size + 1 + 1 + 1 + 1 < w3.heap.size := by omega); (try have hz35 : w.heap.size + 1 + 1 + 1 + 1 + 1 < w3.heap.size := by omega); (try have hy1_3 : w1.heap.size < w3.heap.size := by omega); (try have hy2_3 : w2.heap.size < w3.heap.size := by omega)
          go_wp2_with fail
          refine (HL.out _).mono ?_; rintro e w4 ⟨rfl, hb4⟩; obtain ⟨hc4, hf4⟩ := bcell hb4; have hs4 := hb4.size; (try simp at hs4); (try have hz40 : w.heap.size < w4.heap.size := by omega); (try have hz41 : w.heap.size + 1 < w4.heap.size := by omega); (try have hz42 : w.heap.size + 1 + 1 < w4.heap.size := by omega); (try have hz43 : w.heap.size + 1 + 1 + 1 < w4.heap.size := by omega); (try have hz44 : w.heap.size + 1 + 1 + 1 + 1 < w4.heap.size := by omega); (try have hz45 : w.heap.size + 1 + 1 + 1 + 1 + 1 < w4.heap.size := by omega); (try have hy1_4 : w1.heap.size < w4.heap.size := by omega); (try have hy2_4 : w2.heap.size < w4.heap.size := by omega); (try have hy3_4 : w3.heap.size < w4.heap.size := by omega)
          go_wp2
          refine bodyPost_ret (v := .agg #[.int .i64 (lowN (t * n + d) n), .int .i64 (lowD (t * n + d) n)]) (by simp (maxDischargeDepth := 8) [results, Try.results110, go_sem, *]) rfl ?_
          exact ⟨rfl, by ((repeat' (first | exact Below.refl _ _ | assumption | refine Below.setCell ?_ ?_ _ | refine bdrewN ?_ _ | refine Below.drew ?_ | refine Below.alloc ?_ ?_ _ | refine bbehind ?_ (by assumption) ?_)); all_goals first | (simp; done) | (simp; omega) | omega)⟩
        · have HL := Lib.hid (fun w => lowest_beyond (t * n + d) n w (by omega) (by omega) (by omega) (by omega) hn0 hok)
          rw [lowT_not hok, powEnd_no]
          clear ht hc hct hs hcn hT hok
          go_enter Try.func110, Try.ntmps110
          go_wp2_with fail
          refine (HT.out _).mono ?_; rintro e w2 ⟨rfl, hb2⟩; obtain ⟨hc2, hf2⟩ := bcell hb2; have hs2 := hb2.size; (try simp at hs2); (try have hz20 : w.heap.size < w2.heap.size := by omega); (try have hz21 : w.heap.size + 1 < w2.heap.size := by omega); (try have hz22 : w.heap.size + 1 + 1 < w2.heap.size := by omega); (try have hz23 : w.heap.size + 1 + 1 + 1 < w2.heap.size := by omega); (try have hz24 : w.heap.size + 1 + 1 + 1 + 1 < w2.heap.size := by omega); (try have hz25 : w.heap.size + 1 + 1 + 1 + 1 + 1 < w2.heap.size := by omega); (try have hy1_2 : w1.heap.size < w2.heap.size := by omega)
          go_wp2_with fail
          refine (IH.out _ (by ((repeat' (first | exact Below.refl _ _ | assumption | refine Below.setCell ?_ ?_ _ | refine bdrewN ?_ _ | refine Below.drew ?_ | refine Below.alloc ?_ ?_ _ | refine bbehind ?_ (by assumption) ?_)); all_goals first | (simp; done) | (simp; omega) | omega))).mono ?_; rintro e w3 ⟨rfl, hb3⟩; obtain ⟨hc3, hf3⟩ := bcell hb3; have hs3 := hb3.size; (try simp at hs3); (try have hz30 : w.heap.size < w3.heap.size := by omega); (try have hz31 : w.heap.size + 1 < w3.heap.size := by omega); (try have hz32 : w.heap.size + 1 + 1 < w3.heap.size := by omega); (try have hz33 : w.heap.size + 1 + 1 + 1 < w3.heap.size := by omega); (try have hz34 : w.heap.size + 1 + 1 + 1 + 1 < w3.heap.size := by omega); (try have hz35 : w.heap.size + 1 + 1 + 1 + 1 + 1 < w3.heap.size := by omega); (try have hy1_3 : w1.heap.size < w3.heap.size := by omega); (try have hy2_3 : w2.heap.size < w3.heap.size := by omega)
          go_wp2_with fail
          refine (HL.out _).mono ?_; rintro e w4 ⟨rfl, hb4⟩; obtain ⟨hc4, hf4⟩ := bcell hb4; have hs4 := hb4.size; (try simp at hs4); (try have hz40 : w.heap.size < w4.heap.size := by omega); (try have hz41 : w.heap.size + 1 < w4.heap.size := by omega); (try have hz42 : w.heap.size + 1 + 1 < w4.heap.size := by omega); (try have hz43 : w.heap.size + 1 + 1 + 1 < w4.heap.size := by omega); (try have hz44 : w.heap.size + 1 + 1 + 1 + 1 < w4.heap.size := by omega); (try have hz45 : w.heap.size + 1 + 1 + 1 + 1 + 1 < w4.heap.size := by omega); (try have hy1_4 : w1.heap.size < w4.heap.size := by omega); (try have hy2_4 : w2.heap.size < w4.heap.size := by omega); (try have hy3_4 : w3.heap.size < w4.heap.size := by omega)
          go_wp2
          exact ⟨rfl, rfl, by ((repeat' (first | exact Below.refl _ _ | assumption | refine Below.setCell ?_ ?_ _ | refine bdrewN ?_ _ | refine Below.drew ?_ | refine Below.alloc ?_ ?_ _ | refine bbehind ?_ (by assumption) ?_)); all_goals first | (simp; done) | (simp; omega) | omega)⟩
      · rw [hs, powEnd_no] at IH
        rw [stand_no ht (by simp) hs, powEnd_no]
        clear ht hc hct hs hT
        go_enter Try.func110, Try.ntmps110
        go_wp2_with fail
        refine (HT.out _).mono ?_; rintro e w2 ⟨rfl, hb2⟩; obtain ⟨hc2, hf2⟩ := bcell hb2; have hs2 := hb2.size; (try simp at hs2); (try have hz20 : w.heap.size < w2.heap.size := by omega); (try have hz21 : w.heap.size + 1 < w2.heap.size := by omega); (try have hz22 : w.heap.size + 1 + 1 < w2.heap.size := by omega); (try have hz23 : w.heap.size + 1 + 1 + 1 < w2.heap.size := by omega); (try have hz24 : w.heap.size + 1 + 1 + 1 + 1 < w2.heap.size := by omega); (try have hz25 : w.heap.size + 1 + 1 + 1 + 1 + 1 < w2.heap.size := by omega); (try have hy1_2 : w1.heap.size < w2.heap.size := by omega)
        go_wp2_with fail
        refine (IH.out _ (by ((repeat' (first | exact Below.refl _ _ | assumption | refine Below.setCell ?_ ?_ _ | refine bdrewN ?_ _ | refine Below.drew ?_ | refine Below.alloc ?_ ?_ _ | refine bbehind ?_ (by assumption) ?_)); all_goals first | (simp; done) | (simp; omega) | omega))).mono ?_; rintro e w3 ⟨rfl, hb3⟩; obtain ⟨hc3, hf3⟩ := bcell hb3; have hs3 := hb3.size; (try simp at hs3); (try have hz30 : w.heap.size < w3.heap.size := by omega); (try have hz31 : w.heap.size + 1 < w3.heap.size := by omega); (try have hz32 : w.heap.size + 1 + 1 < w3.heap.size := by omega); (try have hz33 : w.heap.size + 1 + 1 + 1 < w3.heap.size := by omega); (try have hz34 : w.heap.size + 1 + 1 + 1 + 1 < w3.heap.size := by omega); (try have hz35 : w.heap.size + 1 + 1 + 1 + 1 + 1 < w3.heap.size := by omega); (try have hy1_3 : w1.heap.size < w3.heap.size := by omega); (try have hy2_3 : w2.heap.size < w3.heap.size := by omega)
        go_wp2
        exact ⟨rfl, rfl, by ((repeat' (first | exact Below.refl _ _ | assumption | refine Below.setCell ?_ ?_ _ | refine bdrewN ?_ _ | refine Below.drew ?_ | refine Below.alloc ?_ ?_ _ | refine bbehind ?_ (by assumption) ?_)); all_goals first | (simp; done) | (simp; omega) | omega)⟩
    · have HT := Lib.hid (fun w => term_no t w ht)
      rw [stand_out ht, powEnd_no]
      clear ht hc hct hT
      go_enter Try.func110, Try.ntmps110
      go_wp2_with fail
      refine (HT.out _).mono ?_; rintro e w2 ⟨rfl, hb2⟩; obtain ⟨hc2, hf2⟩ := bcell hb2; have hs2 := hb2.size; (try simp at hs2); (try have hz20 : w.heap.size < w2.heap.size := by omega); (try have hz21 : w.heap.size + 1 < w2.heap.size := by omega); (try have hz22 : w.heap.size + 1 + 1 < w2.heap.size := by omega); (try have hz23 : w.heap.size + 1 + 1 + 1 < w2.heap.size := by omega); (try have hz24 : w.heap.size + 1 + 1 + 1 + 1 < w2.heap.size := by omega); (try have hz25 : w.heap.size + 1 + 1 + 1 + 1 + 1 < w2.heap.size := by omega); (try have hy1_2 : w1.heap.size < w2.heap.size := by omega)
      go_wp2
      exact ⟨rfl, rfl, by ((repeat' (first | exact Below.refl _ _ | assumption | refine Below.setCell ?_ ?_ _ | refine bdrewN ?_ _ | refine Below.drew ?_ | refine Below.alloc ?_ ?_ _ | refine bbehind ?_ (by assumption) ?_)); all_goals first | (simp; done) | (simp; omega) | omega)⟩
end Go.Proofs.Ytgefidffhdanhaa
