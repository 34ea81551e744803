/- What the proof of PrfTreeChecks rests on, part 11 of 11. -/
import Derived.Deep.Slices
import Derived.Deep.SlicePairs
import Derived.ChangeArms
import Derived.SizedLaws
import Derived.Test.YtefongoinlcgaaaGreatMPrfTreeChecks10
/- the reference's Told, Digest, Print. -/
namespace Go.Proofs.YtefongoinlcgaaaGreat
open Go.RowKit

def foOk : Fo → Prop
  | .nil => True
  | .cons h ks r => HdOk h ∧ ((h.k = 1 → chk h.n h.d = 0) ∧ (h.k ≠ 0 → ks.len = 0)) ∧ foOk ks ∧ foOk r
theorem treeQ_eq {h : Hd} {ks : Fo} (h1 : h.k = 1 → chk h.n h.d = 0) (h2 : h.k ≠ 0 → ks.len = 0) : treeQ h ks = hdText h ++ (if ks.len = 0 then [] else 123 :: (foQ true ks ++ [125])) := by
  unfold treeQ hdText elemQ
  by_cases k1 : h.k = 1
  · rw [if_pos k1, if_pos k1, if_pos (h2 (by omega))]
    unfold printE
    rw [if_pos (h1 k1), List.append_nil]
  · rw [if_neg k1, if_neg k1]
    by_cases k2 : h.k = 2
    · rw [if_pos k2, if_pos k2, if_pos (h2 (by omega)), List.append_nil]
    · rw [if_neg k2, if_neg k2, List.append_assoc]
theorem foOk_drop : ∀ {f : Fo} {k : Nat} {h : Hd} {ks r : Fo}, foOk f → f.drop k = .cons h ks r → HdOk h ∧ ((h.k = 1 → chk h.n h.d = 0) ∧ (h.k ≠ 0 → ks.len = 0)) ∧ foOk ks
  | .nil, k, _, _, _, _, e => by rw [Fo.drop_nil] at e; cases e
  | .cons h0 k0 r0, 0, h, ks, r, ha, e => by
    simp only [Fo.drop, Fo.cons.injEq] at e
    obtain ⟨rfl, rfl, rfl⟩ := e
    exact ⟨ha.1, ha.2.1, ha.2.2.1⟩
  | .cons h0 k0 r0, k + 1, h, ks, r, ha, e => foOk_drop ha.2.2.2 e

set_option maxRecDepth 100000 in
set_option maxHeartbeats 4000000 in
theorem told_of (f : Fo) (v : Value) (w : World) (hl : Lies w v f) (ok : foOk f) (hlen : (foQ true f).length ≤ 100000)
    (HK : ∀ k h ks, k < f.len → f.drop k = .cons h ks (f.drop (k + 1)) → ∀ v w, Lies w v ks → (foQ true ks).length ≤ 100000 → Calls Tryz.prog 84 #[v] w fun e w' => e = .returned (.string ⟨(foQ true ks).toArray⟩) ∧ Below w.heap.size w w') :
    Calls Tryz.prog 84 #[v] w fun e w' => e = .returned (.string ⟨(foQ true f).toArray⟩) ∧ Below w.heap.size w w' := by
  have HL := Lib.hid hl
  have HK' := Lib.hid HK
  have OK := Lib.hid ok
  have hfl := lies_len hl
  obtain ⟨a, cap, rfl⟩ := lies_form hl
  clear hl HK ok
  go_enter Tryz.func84, Tryz.ntmps84
  go_wp2_with fail
  go_loopw [3, 4] (fun s i wr => ∃ k : Nat, i = .int .i64 k ∧ k ≤ f.len ∧ s = .string ⟨(foQ true (f.take k)).toArray⟩ ∧ Below w.heap.size w wr) (fun _ i _ => f.len - (intOf i).toNat)
  case atStart => exact ⟨0, rfl, Nat.zero_le _, by simp [Fo.take, foQ], Below.refl _ _⟩
  case round =>
    obtain ⟨k, rfl, hk, rfl, hbw⟩ := hrel
    have hsz := hbw.size
    by_cases hlt : k < f.len
    · have dk : decide (k < f.len) = true := by simpa using hlt
      obtain ⟨bf, of, cp, hs, -, -, hbf, hrow⟩ := lies_row HL.out (by omega)
      simp only [Value.slice.injEq] at hs
      obtain ⟨rfl, -, rfl⟩ := hs
      obtain ⟨hd, ks, e, ⟨q0, q1, ⟨va, q2, ha'⟩, q3, q4, q5⟩, vk, q6, hlk⟩ := row_get hrow hlt
      obtain ⟨aa, ca, rfl⟩ := attrs_form ha'
      obtain ⟨ak, ck, rfl⟩ := lies_form hlk
      obtain ⟨hok1, hok2, hok3⟩ := foOk_drop OK.out e
      have r0 := (hbw.cell (p := ⟨bf, of + k * 7, none⟩) hbf).trans q0
      have r1 := (hbw.cell (p := ⟨bf, of + k * 7 + 1, none⟩) hbf).trans q1
      have r2 := (hbw.cell (p := ⟨bf, of + k * 7 + 2, none⟩) hbf).trans q2
      have r3 := (hbw.cell (p := ⟨bf, of + k * 7 + 3, none⟩) hbf).trans q3
      have r4 := (hbw.cell (p := ⟨bf, of + k * 7 + 4, none⟩) hbf).trans q4
      have r5 := (hbw.cell (p := ⟨bf, of + k * 7 + 5, none⟩) hbf).trans q5
      have r6 := (hbw.cell (p := ⟨bf, of + k * 7 + 6, none⟩) hbf).trans q6
      have hbfr : bf < wr.heap.size := by omega
      have HTK := Lib.hid (foQ_take true e)
      have HTE := Lib.hid (treeQ_eq hok2.1 hok2.2)
      have hll := congrArg List.length HTK.out
      have hll2 := foQ_len f (k + 1) true
      have hll3 := congrArg List.length HTE.out
      simp only [List.length_append] at hll hll3
      have TH := Lib.hid (fun w1 (hw : Below w.heap.size w w1) => toldHead_any hd aa ca w1 (attrs_below ha' hw) hok1)
      have HKK := Lib.hid (fun w1 (hw : Below w.heap.size w w1) => HK'.out k hd ks hlt e _ w1 (lies_below hlk hw))
      unfold hdVal at TH
      obtain ⟨acc, hacc⟩ : ∃ acc, foQ true (f.take k) = acc := ⟨_, rfl⟩
      rw [hacc] at HTK hll ⊢
      clear q0 q1 q2 q3 q4 q5 q6 ha' hlk e hrow hok1 hok2 hok3 hacc
      by_cases hj0 : k = 0
      · have dj0 : decide (0 < k) = false := decide_eq_false (by omega)
        rw [if_pos (show (if k = 0 then true else false) = true by rw [if_pos hj0])] at HTK
        clear hj0
        by_cases hk0 : ks.len = 0
        · have hkd : decide (0 < ks.len) = false := decide_eq_false (by omega)
          have HF := Lib.hid (HTK.out.trans (by rw [HTE.out, if_pos hk0]))
          clear hk0
          go_wp2_with fail
          refine (TH.out _ hbw).mono ?_; rintro e w1 ⟨rfl, hb1⟩; obtain ⟨hc1, hf1⟩ := bcell hb1; have hs1 := hb1.size; (try simp at hs1); (try have hz10 : w.heap.size < w1.heap.size := by omega); (try have hz11 : w.heap.size + 1 < w1.heap.size := by omega); (try have hz12 : w.heap.size + 1 + 1 < w1.heap.size := by omega); (try have hz13 : w.heap.size + 1 + 1 + 1 < w1.heap.size := by omega); (try have hz14 : w.heap.size + 1 + 1 + 1 + 1 < w1.heap.size := by omega); (try have hz15 : w.heap.size + 1 + 1 + 1 + 1 + 1 < w1.heap.size := by omega)
          have g6 := (hc1 bf (of + k * 7 + 6) hbfr).trans r6
          have hbf1 : bf < w1.heap.size := by omega
          go_wp2_with fail
          go_roundw
          case rel => exact ⟨k + 1, by go_num, by omega, by rw [HF.out]; simp, hbw.trans (hb1.mono hbw.size)⟩
          case measure => simp [intOf]; omega
        · have hkd : decide (0 < ks.len) = true := decide_eq_true (by omega)
          have HF := Lib.hid (HTK.out.trans (by rw [HTE.out, if_neg hk0]))
          have hlf := congrArg List.length (HTE.out.trans (by rw [if_neg hk0]))
          simp only [List.length_append, List.length_cons, List.length_nil] at hlf
          clear hk0
          go_wp2_with fail
          refine (TH.out _ hbw).mono ?_; rintro e w1 ⟨rfl, hb1⟩; obtain ⟨hc1, hf1⟩ := bcell hb1; have hs1 := hb1.size; (try simp at hs1); (try have hz10 : w.heap.size < w1.heap.size := by omega); (try have hz11 : w.heap.size + 1 < w1.heap.size := by omega); (try have hz12 : w.heap.size + 1 + 1 < w1.heap.size := by omega); (try have hz13 : w.heap.size + 1 + 1 + 1 < w1.heap.size := by omega); (try have hz14 : w.heap.size + 1 + 1 + 1 + 1 < w1.heap.size := by omega); (try have hz15 : w.heap.size + 1 + 1 + 1 + 1 + 1 < w1.heap.size := by omega)
          have g6 := (hc1 bf (of + k * 7 + 6) hbfr).trans r6
          have hbf1 : bf < w1.heap.size := by omega
          go_wp2_with fail
          refine (HKK.out w1 (hbw.trans (hb1.mono hbw.size)) (by omega)).mono ?_; rintro e w2 ⟨rfl, hb2⟩; obtain ⟨hc2, hf2⟩ := bcell hb2; have hs2 := hb2.size; (try simp at hs2); (try have hz20 : w.heap.size < w2.heap.size := by omega); (try have hz21 : w.heap.size + 1 < w2.heap.size := by omega); (try have hz22 : w.heap.size + 1 + 1 < w2.heap.size := by omega); (try have hz23 : w.heap.size + 1 + 1 + 1 < w2.heap.size := by omega); (try have hz24 : w.heap.size + 1 + 1 + 1 + 1 < w2.heap.size := by omega); (try have hz25 : w.heap.size + 1 + 1 + 1 + 1 + 1 < w2.heap.size := by omega); (try have hy1_2 : w1.heap.size < w2.heap.size := by omega)
          go_wp2_with fail
          go_roundw
          case rel => exact ⟨k + 1, by go_num, by omega, by rw [HF.out]; simp, (hbw.trans (hb1.mono hbw.size)).trans (hb2.mono (Nat.le_trans hbw.size hb1.size))⟩
          case measure => simp [intOf]; omega
      · have dj0 : decide (0 < k) = true := decide_eq_true (by omega)
        have hng : ¬ (if k = 0 then true else false) = true := by rw [if_neg hj0]; decide
        rw [if_neg hng] at HTK hll
        simp only [List.length_cons, List.length_nil] at hll
        clear hj0 hng
        by_cases hk0 : ks.len = 0
        · have hkd : decide (0 < ks.len) = false := decide_eq_false (by omega)
          have HF := Lib.hid (HTK.out.trans (by rw [HTE.out, if_pos hk0]))
          clear hk0
          go_wp2_with fail
          refine (TH.out _ hbw).mono ?_; rintro e w1 ⟨rfl, hb1⟩; obtain ⟨hc1, hf1⟩ := bcell hb1; have hs1 := hb1.size; (try simp at hs1); (try have hz10 : w.heap.size < w1.heap.size := by omega); (try have hz11 : w.heap.size + 1 < w1.heap.size := by omega); (try have hz12 : w.heap.size + 1 + 1 < w1.heap.size := by omega); (try have hz13 : w.heap.size + 1 + 1 + 1 < w1.heap.size := by omega); (try have hz14 : w.heap.size + 1 + 1 + 1 + 1 < w1.heap.size := by omega); (try have hz15 : w.heap.size + 1 + 1 + 1 + 1 + 1 < w1.heap.size := by omega)
          have g6 := (hc1 bf (of + k * 7 + 6) hbfr).trans r6
          have hbf1 : bf < w1.heap.size := by omega
          go_wp2_with fail
          go_roundw
          case rel => exact ⟨k + 1, by go_num, by omega, by rw [HF.out]; simp, hbw.trans (hb1.mono hbw.size)⟩
          case measure => simp [intOf]; omega
        · have hkd : decide (0 < ks.len) = true := decide_eq_true (by omega)
          have HF := Lib.hid (HTK.out.trans (by rw [HTE.out, if_neg hk0]))
          have hlf := congrArg List.length (HTE.out.trans (by rw [if_neg hk0]))
          simp only [List.length_append, List.length_cons, List.length_nil] at hlf
          clear hk0
          go_wp2_with fail
          refine (TH.out _ hbw).mono ?_; rintro e w1 ⟨rfl, hb1⟩; obtain ⟨hc1, hf1⟩ := bcell hb1; have hs1 := hb1.size; (try simp at hs1); (try have hz10 : w.heap.size < w1.heap.size := by omega); (try have hz11 : w.heap.size + 1 < w1.heap.size := by omega); (try have hz12 : w.heap.size + 1 + 1 < w1.heap.size := by omega); (try have hz13 : w.heap.size + 1 + 1 + 1 < w1.heap.size := by omega); (try have hz14 : w.heap.size + 1 + 1 + 1 + 1 < w1.heap.size := by omega); (try have hz15 : w.heap.size + 1 + 1 + 1 + 1 + 1 < w1.heap.size := by omega)
          have g6 := (hc1 bf (of + k * 7 + 6) hbfr).trans r6
          have hbf1 : bf < w1.heap.size := by omega
          go_wp2_with fail
          refine (HKK.out w1 (hbw.trans (hb1.mono hbw.size)) (by omega)).mono ?_; rintro e w2 ⟨rfl, hb2⟩; obtain ⟨hc2, hf2⟩ := bcell hb2; have hs2 := hb2.size; (try simp at hs2); (try have hz20 : w.heap.size < w2.heap.size := by omega); (try have hz21 : w.heap.size + 1 < w2.heap.size := by omega); (try have hz22 : w.heap.size + 1 + 1 < w2.heap.size := by omega); (try have hz23 : w.heap.size + 1 + 1 + 1 < w2.heap.size := by omega); (try have hz24 : w.heap.size + 1 + 1 + 1 + 1 < w2.heap.size := by omega); (try have hz25 : w.heap.size + 1 + 1 + 1 + 1 + 1 < w2.heap.size := by omega); (try have hy1_2 : w1.heap.size < w2.heap.size := by omega)
          go_wp2_with fail
          go_roundw
          case rel => exact ⟨k + 1, by go_num, by omega, by rw [HF.out]; simp, (hbw.trans (hb1.mono hbw.size)).trans (hb2.mono (Nat.le_trans hbw.size hb1.size))⟩
          case measure => simp [intOf]; omega
    · have dk : decide (k < f.len) = false := by simpa using hlt
      obtain rfl : k = f.len := by omega
      have e : f.take f.len = f := Fo.take_len f
      rw [e]
      go_wp2_with fail
      go_ret
      exact ⟨rfl, hbw⟩
theorem told_all : ∀ (N : Nat) (f : Fo), f.size ≤ N → foOk f → ∀ (v : Value) (w : World), Lies w v f → (foQ true f).length ≤ 100000 → Calls Tryz.prog 84 #[v] w fun e w' => e = .returned (.string ⟨(foQ true f).toArray⟩) ∧ Below w.heap.size w w' := by
  intro N
  induction N with
  | zero =>
    intro f hf ok v w hl hlen
    exact told_of f v w hl ok hlen (fun k h ks hk => by have := Fo.len_le_size f; omega)
  | succ N ih =>
    intro f hf ok v w hl hlen
    refine told_of f v w hl ok hlen (fun k h ks hk e v w hl hlen => ih ks ?_ (foOk_drop ok e).2.2 v w hl hlen)
    have := Fo.size_app (f.take k) (f.drop k)
    rw [Fo.take_app_drop, e] at this
    simp only [Fo.size] at this
    omega
end Go.Proofs.YtefongoinlcgaaaGreat

/- the reference's Digest and Print. -/
namespace Go.Proofs.YtefongoinlcgaaaGreat
open Go.RowKit

theorem hd_ok {h : Hd} (e : headErr h = 0) : HdOk h ∧ (h.k = 1 → chk h.n h.d = 0) := by
  unfold headErr at e
  by_cases h0 : strayB h = true
  · rw [if_pos h0] at e; cases e
  rw [if_neg h0] at e
  unfold strayB at h0
  by_cases h1 : h.k = 1
  · rw [if_pos h1] at e
    simp [h1] at h0
    exact ⟨⟨fun _ => fit_of_chk e, by rw [h0.2.1]; simp, by rw [h0.1]; simp, by rw [h0.2.2]; simp, by rw [h0.2.2]; simp⟩, fun _ => e⟩
  · rw [if_neg h1] at e
    by_cases h2 : h.k = 2
    · rw [if_pos h2] at e
      simp [h2] at h0
      have hp : printableB h.x 24 = true := by
        by_cases hp : printableB h.x 24 = true
        · exact hp
        · rw [if_neg hp] at e; cases e
      have := printable_ok hp
      exact ⟨⟨fun k => absurd k h1, by rw [h0.2.1]; simp, by omega, by rw [h0.2.2]; simp, by rw [h0.2.2]; simp⟩, fun k => absurd k h1⟩
    · rw [if_neg h2] at e
      by_cases h3 : h.k = 0
      · simp [h3] at h0
        unfold elemErr at e
        by_cases g1 : namedB h.l = false
        · rw [if_pos g1] at e; cases e
        rw [if_neg g1] at e
        by_cases g2 : 3 < h.ats.length
        · rw [if_pos g2] at e; cases e
        rw [if_neg g2] at e
        have ha := attrs_ok _ _ e
        have hl := named_ok (by simpa using g1 : namedB h.l = true)
        exact ⟨⟨fun k => absurd k h1, by omega, by rw [h0.2]; simp, by omega, fun q hq => ⟨by have := (ha q hq).1; omega, by have := (ha q hq).2.1; omega⟩⟩, fun k => absurd k h1⟩
      · simp [h1, h2, h3] at h0
theorem heads_ok : ∀ f : Fo, headsErr f = 0 → foOk f
  | .nil, _ => trivial
  | .cons h ks r, e => by
    unfold headsErr at e
    by_cases h1 : headErr h ≠ 0
    · rw [if_pos h1] at e; exact absurd e h1
    rw [if_neg h1] at e
    by_cases h2 : h.k ≠ 0 ∧ ks.len ≠ 0
    · rw [if_pos h2] at e; cases e
    rw [if_neg h2] at e
    by_cases h3 : headsErr ks ≠ 0
    · rw [if_pos h3] at e; exact absurd e h3
    rw [if_neg h3] at e
    have hh := hd_ok (h := h) (by simpa using h1)
    exact ⟨hh.1, ⟨hh.2, fun hk => by
      by_cases hl : ks.len = 0
      · exact hl
      · exact absurd ⟨hk, hl⟩ h2⟩, heads_ok ks (by simpa using h3), heads_ok r e⟩
theorem valid_fo {f : Fo} (h : foErr f = 0) : foOk f ∧ (foQ true f).length ≤ 48000 := by
  refine ⟨heads_ok f ?_, (valid_ok h).2⟩
  unfold foErr at h
  by_cases h1 : 400 < f.size
  · rw [if_pos h1] at h; cases h
  rw [if_neg h1] at h
  by_cases h2 : 40 < f.deep
  · rw [if_pos h2] at h; cases h
  rw [if_neg h2] at h
  exact h

set_option maxRecDepth 100000 in
set_option maxHeartbeats 2000000 in
theorem qdigest_any (f : Fo) (v : Value) (w : World) (hl : Lies w v f) (hs : Small f) :
    Calls Tryz.prog 26 #[v] w fun e w' => e = .returned (.tuple #[.int .i64 (digF f).1, .int .i64 (digF f).2]) ∧ Below w.heap.size w w' := by
  have CH := Lib.hid (qcheck_any f v w hl hs)
  have HV := Lib.hid (fun h => valid_fo (f := f) h)
  have WR := Lib.hid (fun w1 (hw : Below w.heap.size w w1) (ha : foOk f ∧ (foQ true f).length ≤ 48000) => told_all f.size f (Nat.le_refl _) ha.1 v w1 (lies_below hl hw) (by omega))
  obtain ⟨a, cap, rfl⟩ := lies_form hl
  have HP := Lib.hid (show digF f = if foErr f = 0 then (digI (foQ true f), 0) else (0, foErr f) from rfl)
  clear hl hs
  generalize foErr f = er at *
  by_cases he : er = 0
  · have b0 : (er != 0) = false := by simpa using he
    have HA2 := Lib.hid (HV.out he)
    have HQ := Lib.hid (HP.out.trans (if_pos he))
    clear he
    generalize foQ true f = q at *
    have hql := HA2.out.2
    go_enter Tryz.func26, Tryz.ntmps26
    go_wp2_with fail
    refine CH.out.mono ?_
    rintro e w1 ⟨rfl, hb1⟩
    go_wp2_with fail
    refine (WR.out w1 hb1 HA2.out).mono ?_
    rintro e w2 ⟨rfl, hb2⟩
    have hB := hb1.trans (hb2.mono hb1.size)
    go_wp2_with fail
    refine (digestOf_any q w2 hql).mono ?_
    rintro e w3 ⟨rfl, hb3⟩
    go_wp2_with fail
    go_ret2
    rw [HQ.out]
    exact ⟨rfl, hB.trans (hb3.mono hB.size)⟩
  · have b0 : (er != 0) = true := by simpa using he
    have HQ := Lib.hid (HP.out.trans (if_neg (by simpa using he)))
    clear he
    go_enter Tryz.func26, Tryz.ntmps26
    go_wp2_with fail
    refine CH.out.mono ?_
    rintro e w1 ⟨rfl, hb1⟩
    go_wp2_with fail
    go_ret2
    rw [HQ.out]
    exact ⟨rfl, hb1⟩

set_option maxRecDepth 100000 in
set_option maxHeartbeats 2000000 in
theorem qprint_any (f : Fo) (v : Value) (w : World) (hl : Lies w v f) (hs : Small f) :
    Calls Tryz.prog 57 #[v] w fun e w' => e = .returned (.tuple #[.string ⟨(printF f).1.toArray⟩, .int .i64 (printF f).2]) ∧ Below w.heap.size w w' := by
  have CH := Lib.hid (qcheck_any f v w hl hs)
  have HV := Lib.hid (fun h => valid_fo (f := f) h)
  have WR := Lib.hid (fun w1 (hw : Below w.heap.size w w1) (ha : foOk f ∧ (foQ true f).length ≤ 48000) => told_all f.size f (Nat.le_refl _) ha.1 v w1 (lies_below hl hw) (by omega))
  obtain ⟨a, cap, rfl⟩ := lies_form hl
  have HP := Lib.hid (show printF f = if foErr f ≠ 0 then ([], foErr f) else if (foQ true f).length ≤ 20000 then (foQ true f, 0) else ([], 8) from rfl)
  clear hl hs
  generalize foErr f = er at *
  by_cases he : er = 0
  · have b0 : (er != 0) = false := by simpa using he
    have HA2 := Lib.hid (HV.out he)
    have HQ := Lib.hid (HP.out.trans (if_neg (by simpa using he)))
    clear he
    generalize foQ true f = q at *
    go_enter Tryz.func57, Tryz.ntmps57
    go_wp2_with fail
    refine CH.out.mono ?_
    rintro e w1 ⟨rfl, hb1⟩
    go_wp2_with fail
    refine (WR.out w1 hb1 HA2.out).mono ?_
    rintro e w2 ⟨rfl, hb2⟩
    have hB := hb1.trans (hb2.mono hb1.size)
    by_cases hq : q.length ≤ 20000
    · have dq : decide ((20000 : Int) < (q.length : Int)) = false := decide_eq_false (by omega)
      have HR := Lib.hid (HQ.out.trans (if_pos hq))
      clear hq
      go_wp2_with fail
      go_ret2
      rw [HR.out]
      exact ⟨rfl, hB⟩
    · have dq : decide ((20000 : Int) < (q.length : Int)) = true := decide_eq_true (by omega)
      have HR := Lib.hid (HQ.out.trans (if_neg hq))
      clear hq
      go_wp2_with fail
      go_ret2
      rw [HR.out]
      exact ⟨rfl, hB⟩
  · have b0 : (er != 0) = true := by simpa using he
    have HQ := Lib.hid (HP.out.trans (if_pos (by simpa using he)))
    clear he
    go_enter Tryz.func57, Tryz.ntmps57
    go_wp2_with fail
    refine CH.out.mono ?_
    rintro e w1 ⟨rfl, hb1⟩
    go_wp2_with fail
    go_ret2
    rw [HQ.out]
    exact ⟨rfl, hb1⟩
end Go.Proofs.YtefongoinlcgaaaGreat

/- the walk of the law TreeChecks. -/
namespace Go.Proofs.YtefongoinlcgaaaGreat
open Go.RowKit

/-- a head's value. -/
def hdA (h : Hd) (va : Value) : Value := .agg #[.int .i64 h.k, .string ⟨h.l.toArray⟩, va, .int .i64 h.n, .int .i64 h.d, .string ⟨h.x.toArray⟩]

set_option maxRecDepth 100000 in
set_option maxHeartbeats 8000000 in
theorem checks_any (h : Hd) (va : Value) (f : Fo) (v : Value) (w : World) (ha : AttrsLie w va h.ats) (hl : Lies w v f) :
    Calls Tryz.prog 3 #[hdA h va, v] w fun e w' => e = .returned (.bool true) ∧ Below w.heap.size w w' := by
  unfold hdA
  have GR := Lib.hid (fun w => grown_any w)
  have GH := Lib.hid (fun w1 (hw : Below w.heap.size w w1) => greatHead_any h va w1 (attrs_below ha hw))
  cases hgh : greatHead h with
  | true =>
    rw [hgh] at GH
    clear ha hl hgh
    go_enter Tryz.func3, Tryz.ntmps3
    go_wp2_with fail
    refine (GH.out _ (by ((repeat' (first | exact Below.refl _ _ | assumption | refine Below.setCell ?_ ?_ _ | refine bdrewN ?_ _ | refine Below.drew ?_ | refine Below.alloc ?_ ?_ _ | refine bbehind ?_ (by assumption) ?_)); all_goals first | (simp; done) | (simp; omega) | omega))).mono ?_
    rintro e w1 ⟨rfl, hb1⟩
    have hs1 := hb1.size
    simp at hs1
    go_wp2_with fail
    refine (GR.out _).mono ?_
    rintro e w2 ⟨rfl, hb2⟩
    go_wp2_with fail
    go_ret
    exact ⟨rfl, by ((repeat' (first | exact Below.refl _ _ | assumption | refine Below.setCell ?_ ?_ _ | refine bdrewN ?_ _ | refine Below.drew ?_ | refine Below.alloc ?_ ?_ _ | refine bbehind ?_ (by assumption) ?_)); all_goals first | (simp; done) | (simp; omega) | omega)⟩
  | false =>
    rw [hgh] at GH
    have GF := Lib.hid (fun w1 (hw : Below w.heap.size w w1) => great_any f.size f v w1 (Nat.le_refl _) (lies_below hl hw))
    obtain ⟨a, cap, rfl⟩ := lies_form hl
    obtain ⟨aa, ca, rfl⟩ := attrs_form ha
    cases hgf : great f with
    | true =>
      rw [hgf] at GF
      clear ha hl hgh hgf
      go_enter Tryz.func3, Tryz.ntmps3
      go_wp2_with fail
      refine (GH.out _ (by ((repeat' (first | exact Below.refl _ _ | assumption | refine Below.setCell ?_ ?_ _ | refine bdrewN ?_ _ | refine Below.drew ?_ | refine Below.alloc ?_ ?_ _ | refine bbehind ?_ (by assumption) ?_)); all_goals first | (simp; done) | (simp; omega) | omega))).mono ?_
      rintro e w1 ⟨rfl, hb1⟩
      have hs1 := hb1.size
      simp at hs1
      have B1 : Below w.heap.size w w1 := by ((repeat' (first | exact Below.refl _ _ | assumption | refine Below.setCell ?_ ?_ _ | refine bdrewN ?_ _ | refine Below.drew ?_ | refine Below.alloc ?_ ?_ _ | refine bbehind ?_ (by assumption) ?_)); all_goals first | (simp; done) | (simp; omega) | omega)
      go_wp2_with fail
      refine (GF.out _ B1).mono ?_
      rintro e w2 ⟨rfl, hb2⟩
      have hs2 := hb2.size
      have B2 : Below w.heap.size w w2 := B1.trans (hb2.mono B1.size)
      go_wp2_with fail
      refine (GR.out _).mono ?_
      rintro e w3 ⟨rfl, hb3⟩
      go_wp2_with fail
      go_ret
      exact ⟨rfl, B2.trans (hb3.mono B2.size)⟩
    | false =>
      rw [hgf] at GF
      have SM := small_lies hl hgf
      have HF := (hdFit_of hgh).1
      have TH := Lib.hid (fun w1 (hw : Below w.heap.size w w1) => thead_any h _ w1 (attrs_below ha hw) HF)
      have QH := Lib.hid (fun w1 (hw : Below w.heap.size w w1) => qhead_any h _ w1 (attrs_below ha hw) HF)
      have TF := Lib.hid (fun w1 (hw : Below w.heap.size w w1) => tcheck_any f _ w1 (lies_below hl hw) SM)
      have QF := Lib.hid (fun w1 (hw : Below w.heap.size w w1) => qcheck_any f _ w1 (lies_below hl hw) SM)
      have TS := Lib.hid (fun w1 (hw : Below w.heap.size w w1) => tsize_any f _ w1 (lies_below hl hw) SM)
      have QS := Lib.hid (fun w1 (hw : Below w.heap.size w w1) => qsize_any f _ w1 (lies_below hl hw) SM)
      have TD := Lib.hid (fun w1 (hw : Below w.heap.size w w1) => tdeep_any f _ w1 (lies_below hl hw) SM)
      have QD := Lib.hid (fun w1 (hw : Below w.heap.size w w1) => qdeep_any f _ w1 (lies_below hl hw) SM)
      have TG := Lib.hid (fun w1 (hw : Below w.heap.size w w1) => tdigest_any f _ w1 (lies_below hl hw) SM)
      have QG := Lib.hid (fun w1 (hw : Below w.heap.size w w1) => qdigest_any f _ w1 (lies_below hl hw) SM)
      generalize headErr h = E1 at *
      generalize foErr f = E2 at *
      generalize sizeT f = E3 at *
      generalize deepT f = E4 at *
      generalize digF f = E5 at *
      clear ha hl hgh hgf SM HF
      go_enter Tryz.func3, Tryz.ntmps3
      go_wp2_with fail
      refine (GH.out _ (by ((repeat' (first | exact Below.refl _ _ | assumption | refine Below.setCell ?_ ?_ _ | refine bdrewN ?_ _ | refine Below.drew ?_ | refine Below.alloc ?_ ?_ _ | refine bbehind ?_ (by assumption) ?_)); all_goals first | (simp; done) | (simp; omega) | omega))).mono ?_
      rintro e w1 ⟨rfl, hb1⟩
      have hs1 := hb1.size
      simp at hs1
      have B1 : Below w.heap.size w w1 := by ((repeat' (first | exact Below.refl _ _ | assumption | refine Below.setCell ?_ ?_ _ | refine bdrewN ?_ _ | refine Below.drew ?_ | refine Below.alloc ?_ ?_ _ | refine bbehind ?_ (by assumption) ?_)); all_goals first | (simp; done) | (simp; omega) | omega)
      have K1 := Lib.hid ((hb1.block w.heap.size (by simp)).trans (World.alloc_heap_new _ _))
      go_wp2_with fail
      refine (GF.out _ B1).mono ?_
      rintro e w2 ⟨rfl, hb2⟩
      have hs2 := hb2.size
      have B2 : Below w.heap.size w w2 := B1.trans (hb2.mono B1.size)
      have k2 := (hb2.block w.heap.size (by omega)).trans K1.out
      have d0 : w2.cell? ⟨w.heap.size, 0, none⟩ = some (.int .i64 h.k) := cell_of_block k2 rfl
      have d1 : w2.cell? ⟨w.heap.size, 1, none⟩ = some (.string ⟨h.l.toArray⟩) := cell_of_block k2 rfl
      have d2 : w2.cell? ⟨w.heap.size, 2, none⟩ = some (.slice aa h.ats.length ca) := cell_of_block k2 rfl
      have d3 : w2.cell? ⟨w.heap.size, 3, none⟩ = some (.int .i64 h.n) := cell_of_block k2 rfl
      have d4 : w2.cell? ⟨w.heap.size, 4, none⟩ = some (.int .i64 h.d) := cell_of_block k2 rfl
      have d5 : w2.cell? ⟨w.heap.size, 5, none⟩ = some (.string ⟨h.x.toArray⟩) := cell_of_block k2 rfl
      have hlt2 : w.heap.size < w2.heap.size := by omega
      have XTH := Lib.hid (fun x : Lower w2 => TH.out x.val (B2.trans (x.prop.mono B2.size)))
      have XQH := Lib.hid (fun x : Lower w2 => QH.out x.val (B2.trans (x.prop.mono B2.size)))
      have XTF := Lib.hid (fun x : Lower w2 => TF.out x.val (B2.trans (x.prop.mono B2.size)))
      have XQF := Lib.hid (fun x : Lower w2 => QF.out x.val (B2.trans (x.prop.mono B2.size)))
      clear hb1 hb2 k2 K1
      go_wp2_with fail
      refine wp_region_quiet_all (fun w' => ∃ x : Lower _, w' = x.val) (by kernel_rfl) (by kernel_rfl) ⟨⟨_, (Below.refl _ _).drew⟩, rfl⟩ ?_
      repeat (go_big_quiet_step (first | (go_at_call 17; exact calls_lower _ (XTH.out _)) | (go_at_call 18; exact calls_lower _ (XQH.out _)) | (go_at_call 19; exact calls_lower _ (XTF.out _)) | (go_at_call 20; exact calls_lower _ (XQF.out _))))
      refine wpQuiet_nil ?_
      intro w3 hx3
      obtain ⟨x3, hx3⟩ := hx3
      have hb3 := x3.prop
      rw [← hx3] at hb3
      clear hx3 x3
      obtain ⟨hc3, hf3⟩ := bcell hb3
      have hs3 := hb3.size
      try simp at hs3
      try have hz30 : w.heap.size < w3.heap.size := by omega
      try have hz31 : w.heap.size + 1 < w3.heap.size := by omega
      try have hz32 : w.heap.size + 1 + 1 < w3.heap.size := by omega
      try have hz33 : w.heap.size + 1 + 1 + 1 < w3.heap.size := by omega
      try have hz34 : w.heap.size + 1 + 1 + 1 + 1 < w3.heap.size := by omega
      try have hz35 : w.heap.size + 1 + 1 + 1 + 1 + 1 < w3.heap.size := by omega
      try have hy1_3 : w1.heap.size < w3.heap.size := by omega
      try have hy2_3 : w2.heap.size < w3.heap.size := by omega
      have B3 : Below w.heap.size w w3 := B2.trans (hb3.mono B2.size)
      clear hb3 hc3 hf3 XTH XQH XTF XQF d0 d1 d2 d3 d4 d5
      go_wp2_with fail
      refine (TS.out _ B3).mono ?_
      rintro e w4 ⟨rfl, hb4⟩
      have B4 : Below w.heap.size w w4 := B3.trans (hb4.mono B3.size)
      clear hb4
      go_wp2_with fail
      refine (QS.out _ B4).mono ?_
      rintro e w5 ⟨rfl, hb5⟩
      have B5 : Below w.heap.size w w5 := B4.trans (hb5.mono B4.size)
      clear hb5
      go_wp2_with fail
      refine (TD.out _ B5).mono ?_
      rintro e w6 ⟨rfl, hb6⟩
      have B6 : Below w.heap.size w w6 := B5.trans (hb6.mono B5.size)
      clear hb6
      go_wp2_with fail
      refine (QD.out _ B6).mono ?_
      rintro e w7 ⟨rfl, hb7⟩
      have B7 : Below w.heap.size w w7 := B6.trans (hb7.mono B6.size)
      clear hb7
      go_wp2_with fail
      refine (TG.out _ B7).mono ?_
      rintro e w8 ⟨rfl, hb8⟩
      have B8 : Below w.heap.size w w8 := B7.trans (hb8.mono B7.size)
      clear hb8
      go_wp2_with fail
      refine (QG.out _ B8).mono ?_
      rintro e w9 ⟨rfl, hb9⟩
      have B9 : Below w.heap.size w w9 := B8.trans (hb9.mono B8.size)
      clear hb9
      go_wp2_with fail
      refine (GR.out _).mono ?_
      rintro e w10 ⟨rfl, hb10⟩
      go_wp2_with fail
      go_ret
      exact ⟨rfl, B9.trans (hb10.mono B9.size)⟩
end Go.Proofs.YtefongoinlcgaaaGreat

/- forests and heads among the arguments, opened as plain data. -/
namespace Go.Proofs.YtefongoinlcgaaaGreat
open Go.ChangeShapes Go.WideShapes Go.ChangeAt Go.RowKit Go.Deep

theorem mem_all {H : Type} {P : Program} {e : TypeId} : ∀ {ds : List (DataW H)} {d : DataW H}, d ∈ ds → ∀ n ∈ d.weights P e, n ∈ DataW.weightsAll P e ds
  | d' :: r, d, hd, n, hn => by
    simp only [DataW.weightsAll, List.mem_append]
    rcases List.mem_cons.1 hd with rfl | hd
    · exact .inl hn
    · exact .inr (mem_all hd n hn)
theorem bytesAttr : Tryz.prog.bytesOf 81 = 32 := by kernel_rfl
theorem bytesTree : Tryz.prog.bytesOf 43 = 104 := by kernel_rfl
theorem cellsAttr : Tryz.prog.cellsOf 81 = 2 := by kernel_rfl
theorem cellsHead : Tryz.prog.cellsOf 27 = 6 := by kernel_rfl
theorem cellsTree : Tryz.prog.cellsOf 43 = 7 := by kernel_rfl
theorem cellsNumT : Tryz.prog.cellsOf 25 = 2 := by kernel_rfl
theorem cellsKind : Tryz.prog.cellsOf 22 = 1 := by kernel_rfl
theorem cellsStr : Tryz.prog.cellsOf 9 = 1 := by kernel_rfl
theorem cellsAttrs : Tryz.prog.cellsOf 23 = 1 := by kernel_rfl
theorem cellsTrees : Tryz.prog.cellsOf 28 = 1 := by kernel_rfl
theorem cellsInt : Tryz.prog.cellsOf 3 = 1 := by kernel_rfl
/-- no string, no slice of a datum is larger than memory. -/
def Fits {H : Type} (t : TypeId) (d : DataW H) : Prop := ∀ n ∈ d.weights Tryz.prog t, n ≤ reachBytes
theorem str_list (s : ByteArray) : ∃ l : List UInt8, s = ⟨l.toArray⟩ := ⟨s.data.toList, by cases s; simp⟩
theorem lt_of_cell' {w : World} {b o : Nat} {v : Value} (h : w.cell? ⟨b, o, none⟩ = some v) : b < w.heap.size := by
  by_cases hb : b < w.heap.size
  · exact hb
  · exfalso
    have : w.heap[b]? = none := Array.getElem?_eq_none (by omega)
    unfold World.cell? at h
    simp [this] at h

theorem tfields : ∃ a b, Tryz.prog.underlying 43 = some (.struct #[a, b]) ∧ a.type = 27 ∧ a.offset = 0 ∧ b.type = 28 ∧ b.offset = 6 := ⟨_, _, Tryz.underlying43, rfl, rfl, rfl, rfl⟩
theorem hfields : ∃ a b c d e, Tryz.prog.underlying 27 = some (.struct #[a, b, c, d, e]) ∧ (a.type = 22 ∧ a.offset = 0) ∧ (b.type = 9 ∧ b.offset = 1) ∧ (c.type = 23 ∧ c.offset = 2) ∧ (d.type = 25 ∧ d.offset = 3) ∧ (e.type = 9 ∧ e.offset = 5) :=
  ⟨_, _, _, _, _, Tryz.underlying27, ⟨rfl, rfl⟩, ⟨rfl, rfl⟩, ⟨rfl, rfl⟩, ⟨rfl, rfl⟩, ⟨rfl, rfl⟩⟩
theorem nfields : ∃ a b, Tryz.prog.underlying 25 = some (.struct #[a, b]) ∧ a.type = 3 ∧ a.offset = 0 ∧ b.type = 3 ∧ b.offset = 1 := ⟨_, _, Tryz.underlying25, rfl, rfl, rfl, rfl⟩
theorem afields : ∃ a b, Tryz.prog.underlying 81 = some (.struct #[a, b]) ∧ a.type = 9 ∧ a.offset = 0 ∧ b.type = 9 ∧ b.offset = 1 := ⟨_, _, Tryz.underlying81, rfl, rfl, rfl, rfl⟩

section
variable {H : Type} {enc : TypeId × Value → H} {W : World} {held : Bool}

set_option maxRecDepth 100000 in
theorem attrs_open {fuel : Nat} {v : Value} {x : DataW H × List MemPlace} (h : DataW.trod enc Tryz.prog W 0 (fun _ => true) held fuel 23 [v] = some x) (hf : Fits 23 x.1) : ∃ ats, AttrsLie W v ats := by
  obtain ⟨fa, fb, hu, ta, oa, tb, ob⟩ := afields
  rcases open_slice_pairs Tryz.underlying23 hu cellsAttr oa ob (by rw [ta]; exact cellsStr) (by rw [tb]; exact cellsStr) h with ⟨hcs, hx⟩ | ⟨a, len, cap, m, n, V0, V1, D0, D1, P0, P1, hcs, _, hle, hmax, hm, hx, hi⟩
  · simp at hcs
    subst hcs
    exact ⟨[], .inl ⟨_, _, rfl, rfl⟩⟩
  · simp at hcs
    subst hcs
    simp only [if_true] at hm
    by_cases h0 : len = 0
    · subst h0; exact ⟨[], .inl ⟨_, _, rfl, rfl⟩⟩
    · have hw : (len + (m - len)) * 32 ≤ reachBytes := by
        have := hf ((len + (m - len)) * Tryz.prog.bytesOf 81) (by
          subst hx
          simp only [DataW.weights, Tryz.underlying23]
          simp)
        rwa [bytesAttr] at this
      have hi' : ∀ i, i < len → ∃ x y : List UInt8, W.cell? (a.add (i * 2)) = some (.string ⟨x.toArray⟩) ∧ W.cell? (a.add (i * 2 + 1)) = some (.string ⟨y.toArray⟩) := by
        intro i hl
        obtain ⟨h1, h2, h3, h4⟩ := hi i (by omega)
        rw [ta] at h3
        rw [tb] at h4
        obtain ⟨x, e1, _, _⟩ := DataW.trod_string Tryz.underlying9 h3
        obtain ⟨y, e2, _, _⟩ := DataW.trod_string Tryz.underlying9 h4
        simp only [List.cons.injEq, and_true] at e1 e2
        obtain ⟨x, rfl⟩ := str_list x
        obtain ⟨y, rfl⟩ := str_list y
        exact ⟨x, y, by rw [h1, e1], by rw [h2, e2]⟩
      obtain ⟨b, off, spot⟩ := a
      obtain ⟨x0, y0, c0, _⟩ := hi' 0 (by omega)
      have hspot : spot = none := by simpa [Addr.add] using World.cell?_spot c0
      subst hspot
      have hb : b < W.heap.size := by
        rw [Go.WideShapes.add_plain] at c0
        exact lt_of_cell' c0
      have e : ∀ i, i < len → ∃ q : List UInt8 × List UInt8, W.cell? ⟨b, off + i * 2, none⟩ = some (.string ⟨q.1.toArray⟩) ∧ W.cell? ⟨b, off + i * 2 + 1, none⟩ = some (.string ⟨q.2.toArray⟩) := by
        intro i hl
        obtain ⟨x, y, h1, h2⟩ := hi' i hl
        rw [Go.WideShapes.add_plain] at h1 h2
        exact ⟨(x, y), h1, by rw [Nat.add_assoc]; exact h2⟩
      obtain ⟨q, hq⟩ := choose_lt e
      have hl : ((List.range len).map q).length = len := by simp
      refine ⟨(List.range len).map q, .inr ⟨b, off, cap, by rw [hl], by rw [hl]; exact hle, by rw [hl]; unfold reachBytes at hw; omega, hb, fun k hk => ?_⟩⟩
      have hk' : k < len := by rwa [hl] at hk
      have g : ((List.range len).map q).getD k ([], []) = q k := by
        rw [List.getD_eq_getElem?_getD]; simp [hk']
      rw [g]
      exact hq k hk'

set_option maxRecDepth 100000 in
theorem head_open {fuel : Nat} {cs : List Value} {x : DataW H × List MemPlace} (h : DataW.trod enc Tryz.prog W 0 (fun _ => true) held fuel 27 cs = some x) (hf : Fits 27 x.1) :
    ∃ (hd : Hd) (va : Value), cs = [.int .i64 hd.k, .string ⟨hd.l.toArray⟩, va, .int .i64 hd.n, .int .i64 hd.d, .string ⟨hd.x.toArray⟩] ∧ AttrsLie W va hd.ats := by
  obtain ⟨fa, fb, fc, fd, fe, hu, ⟨ta, oa⟩, ⟨tb, ob⟩, ⟨tc, oc⟩, ⟨td, od⟩, te, oe⟩ := hfields
  obtain ⟨xs, n, _, hx, hlen, hxl, hi⟩ := DataW.trod_struct hu h
  rw [cellsHead] at hlen
  obtain ⟨c0, c1, c2, c3, c4, c5, rfl⟩ : ∃ c0 c1 c2 c3 c4 c5, cs = [c0, c1, c2, c3, c4, c5] := by
    match cs, hlen with
    | [c0, c1, c2, c3, c4, c5], _ => exact ⟨c0, c1, c2, c3, c4, c5, rfl⟩
  obtain ⟨x0, x1, x2, x3, x4, rfl⟩ : ∃ x0 x1 x2 x3 x4, xs = [x0, x1, x2, x3, x4] := by
    match xs, hxl with
    | [x0, x1, x2, x3, x4], _ => exact ⟨x0, x1, x2, x3, x4, rfl⟩
  have i0 := hi 0 fa rfl
  have i1 := hi 1 fb rfl
  have i2 := hi 2 fc rfl
  have i3 := hi 3 fd rfl
  have i4 := hi 4 fe rfl
  rw [ta, oa, cellsKind] at i0
  rw [tb, ob, cellsStr] at i1
  rw [tc, oc, cellsAttrs] at i2
  rw [td, od, cellsNumT] at i3
  rw [te, oe, cellsStr] at i4
  simp at i0 i1 i2 i3 i4
  obtain ⟨k, e0, _, _⟩ := DataW.trod_int Tryz.underlying22 i0
  obtain ⟨l, e1, _, _⟩ := DataW.trod_string Tryz.underlying9 i1
  obtain ⟨t, e4, _, _⟩ := DataW.trod_string Tryz.underlying9 i4
  obtain ⟨ats, ha⟩ := attrs_open i2 (fun m hm => hf m (by
    subst hx
    simp only [DataW.weights, hu]
    refine DataW.weights_mem_each (j := 2) (t := 23) (d := x2.1) (by simp [tc]) (by simp) m hm))
  obtain ⟨na, nb, hun, tna, ona, tnb, onb⟩ := nfields
  obtain ⟨ys, n2, _, _, _, hyl, hj⟩ := DataW.trod_struct hun i3
  obtain ⟨y0, y1, rfl⟩ : ∃ y0 y1, ys = [y0, y1] := by
    match ys, hyl with
    | [y0, y1], _ => exact ⟨y0, y1, rfl⟩
  have j0 := hj 0 na rfl
  have j1 := hj 1 nb rfl
  rw [tna, ona, cellsInt] at j0
  rw [tnb, onb, cellsInt] at j1
  simp at j0 j1
  obtain ⟨n', g0, _, _⟩ := DataW.trod_int Tryz.underlying3 j0
  obtain ⟨d', g1, _, _⟩ := DataW.trod_int Tryz.underlying3 j1
  simp only [List.cons.injEq, and_true] at e0 e1 e4 g0 g1
  obtain ⟨l, rfl⟩ := str_list l
  obtain ⟨t, rfl⟩ := str_list t
  exact ⟨⟨k, l, ats, n', d', t⟩, c2, by rw [e0, e1, e4, g0, g1], ha⟩

def foOf : List (Hd × Fo) → Fo
  | [] => .nil
  | x :: r => .cons x.1 x.2 (foOf r)
theorem foOf_len : ∀ l : List (Hd × Fo), (foOf l).len = l.length
  | [] => rfl
  | x :: r => by simp only [foOf, Fo.len, List.length_cons, foOf_len r]
theorem foOf_row {b : Nat} : ∀ (l : List (Hd × Fo)) (o : Nat), (∀ k (hk : k < l.length), HdAt W (l[k]).1 b (o + k * 7) ∧ ∃ v, W.cell? ⟨b, o + k * 7 + 6, none⟩ = some v ∧ Lies W v (l[k]).2) → RowAt W (foOf l) b o
  | [], _, _ => trivial
  | x :: r, o, hk => by
    have h0 := hk 0 (by simp)
    simp only [Nat.zero_mul, Nat.add_zero, List.getElem_cons_zero] at h0
    refine rowAt_cons.2 ⟨h0.1, h0.2, foOf_row r (o + 7) fun k h => ?_⟩
    have := hk (k + 1) (by simpa using h)
    simp only [List.getElem_cons_succ] at this
    rw [show o + (k + 1) * 7 = o + 7 + k * 7 by omega] at this
    exact this
instance : Inhabited (Hd × Fo) := ⟨(⟨0, [], [], 0, 0, []⟩, .nil)⟩

set_option maxRecDepth 100000 in
theorem trees_open : ∀ (fuel : Nat) {v : Value} {x : DataW H × List MemPlace}, DataW.trod enc Tryz.prog W 0 (fun _ => true) held fuel 28 [v] = some x → Fits 28 x.1 → ∃ f, Lies W v f
  | 0, v, x, h, _ => by simp [DataW.trod] at h
  | 1, v, x, h, hf => by
    rcases DataW.trod_slice Tryz.underlying28 h with ⟨hcs, _⟩ | ⟨a, len, cap, elems, rest, n, hn, hcs, hx, _, hle, hmax, hlen, hel, hsp, _⟩
    · simp at hcs; subst hcs; exact ⟨.nil, .inl ⟨_, _, rfl, rfl⟩⟩
    · simp at hcs
      subst hcs
      obtain rfl : n = 0 := by omega
      cases len with
      | zero => exact ⟨.nil, .inl ⟨_, _, rfl, rfl⟩⟩
      | succ len =>
        have h0 := hel 0 (by omega)
        rw [List.getElem?_eq_getElem (by omega)] at h0
        obtain ⟨cs', _, h2⟩ := Option.bind_eq_some_iff.1 h0
        simp [DataW.trod] at h2
  | fuel + 2, v, x, h, hf => by
    rcases DataW.trod_slice Tryz.underlying28 h with ⟨hcs, _⟩ | ⟨a, len, cap, elems, rest, n, hn, hcs, hx, _, hle, hmax, hlen, hel, hsp, _⟩
    · simp at hcs; subst hcs; exact ⟨.nil, .inl ⟨_, _, rfl, rfl⟩⟩
    · simp at hcs
      subst hcs
      obtain rfl : n = fuel + 1 := by omega
      by_cases h0 : len = 0
      · subst h0; exact ⟨.nil, .inl ⟨_, _, rfl, rfl⟩⟩
      · have hw : (elems.length + rest.length) * 104 ≤ reachBytes := by
          have := hf ((elems.length + rest.length) * Tryz.prog.bytesOf 43) (by
            subst hx
            simp only [DataW.weights, Tryz.underlying28]
            simp)
          rwa [bytesTree] at this
        have hi' : ∀ i, i < len → ∃ q : Hd × Fo, (∃ va, W.cell? (a.add (i * 7)) = some (.int .i64 q.1.k) ∧ W.cell? (a.add (i * 7 + 1)) = some (.string ⟨q.1.l.toArray⟩) ∧ W.cell? (a.add (i * 7 + 2)) = some va ∧ AttrsLie W va q.1.ats ∧
            W.cell? (a.add (i * 7 + 3)) = some (.int .i64 q.1.n) ∧ W.cell? (a.add (i * 7 + 4)) = some (.int .i64 q.1.d) ∧ W.cell? (a.add (i * 7 + 5)) = some (.string ⟨q.1.x.toArray⟩)) ∧ ∃ vk, W.cell? (a.add (i * 7 + 6)) = some vk ∧ Lies W vk q.2 := by
          intro i hl
          have hi := hel i hl
          rw [cellsTree, List.getElem?_eq_getElem (by omega)] at hi
          obtain ⟨cs', hc, ht⟩ := Option.bind_eq_some_iff.1 hi
          obtain ⟨_, hcl, hcc⟩ := World.cells?_some hc
          obtain ⟨fa, fb, hu, ta, oa, tb, ob⟩ := tfields
          obtain ⟨xs, m, hm, hxx, _, hxl, hj⟩ := DataW.trod_struct hu ht
          obtain rfl : m = fuel := by omega
          obtain ⟨x0, x1, rfl⟩ : ∃ x0 x1, xs = [x0, x1] := by
            match xs, hxl with
            | [x0, x1], _ => exact ⟨x0, x1, rfl⟩
          obtain ⟨c0, c1, c2, c3, c4, c5, c6, rfl⟩ : ∃ c0 c1 c2 c3 c4 c5 c6, cs' = [c0, c1, c2, c3, c4, c5, c6] := by
            match cs', hcl with
            | [c0, c1, c2, c3, c4, c5, c6], _ => exact ⟨c0, c1, c2, c3, c4, c5, c6, rfl⟩
          have j0 := hj 0 fa rfl
          have j1 := hj 1 fb rfl
          rw [ta, oa, cellsHead] at j0
          rw [tb, ob, cellsTrees] at j1
          simp at j0 j1
          have hfit : Fits 43 (elems[i]).1 := fun n hn => hf n (by
            subst hx
            simp only [DataW.weights, Tryz.underlying28, List.mem_cons, List.mem_append]
            exact .inr (.inl (mem_all (by simp; exact ⟨_, List.getElem_mem _⟩) n hn)))
          rw [hxx] at hfit
          have hf0 : Fits 27 x0.1 := fun n hn => hfit n (by
            simp only [DataW.weights, hu]
            exact DataW.weights_mem_each (j := 0) (t := 27) (d := x0.1) (by simp [ta]) (by simp) n hn)
          have hf1 : Fits 28 x1.1 := fun n hn => hfit n (by
            simp only [DataW.weights, hu]
            exact DataW.weights_mem_each (j := 1) (t := 28) (d := x1.1) (by simp [tb]) (by simp) n hn)
          obtain ⟨hd, va, e, ha⟩ := head_open j0 hf0
          obtain ⟨ks, hk⟩ := trees_open m j1 hf1
          have g : ∀ k (hk : k < 7) u, [c0, c1, c2, c3, c4, c5, c6][k]? = some u → W.cell? (a.add (i * 7 + k)) = some u := fun k hk u hu => by
            rw [← Go.Deep.add_add]; exact (hcc k hk).trans hu
          simp only [List.cons.injEq, and_true] at e
          obtain ⟨rfl, rfl, rfl, rfl, rfl, rfl⟩ := e
          exact ⟨(hd, ks), ⟨c2, g 0 (by omega) _ rfl, g 1 (by omega) _ rfl, g 2 (by omega) _ rfl, ha, g 3 (by omega) _ rfl, g 4 (by omega) _ rfl, g 5 (by omega) _ rfl⟩, c6, g 6 (by omega) _ rfl, hk⟩
        obtain ⟨b, off, spot⟩ := a
        have hspot : spot = none := by
          obtain ⟨q, ⟨va, c0, _⟩, _⟩ := hi' 0 (by omega)
          simpa [Addr.add] using World.cell?_spot c0
        subst hspot
        obtain ⟨q, hq⟩ := choose_lt hi'
        have hb : b < W.heap.size := by
          obtain ⟨⟨va, c0, _⟩, _⟩ := hq 0 (by omega)
          rw [Go.WideShapes.add_plain] at c0
          exact lt_of_cell' c0
        have hl : (foOf ((List.range len).map q)).len = len := by rw [foOf_len]; simp
        refine ⟨foOf ((List.range len).map q), .inr ⟨b, off, cap, by rw [hl], by rw [hl]; exact hle, by rw [hl]; unfold reachBytes at hw; omega, hb, foOf_row _ off fun k hk => ?_⟩⟩
        have hk' : k < len := by simpa using hk
        obtain ⟨⟨va, c0, c1, c2, ha, c3, c4, c5⟩, vk, c6, hk6⟩ := hq k hk'
        rw [Go.WideShapes.add_plain] at c0 c1 c2 c3 c4 c5 c6
        simp only [List.getElem_map, List.getElem_range]
        exact ⟨⟨c0, by rw [Nat.add_assoc]; exact c1, ⟨va, by rw [Nat.add_assoc]; exact c2, ha⟩, by rw [Nat.add_assoc]; exact c3, by rw [Nat.add_assoc]; exact c4, by rw [Nat.add_assoc]; exact c5⟩, vk, by rw [Nat.add_assoc]; exact c6, hk6⟩
set_option maxRecDepth 100000 in
theorem tree_open {fuel : Nat} {cs : List Value} {x : DataW H × List MemPlace} (h : DataW.trod enc Tryz.prog W 0 (fun _ => true) held fuel 43 cs = some x) (hf : Fits 43 x.1) :
    ∃ (hd : Hd) (ks : Fo) (va vk : Value), cs = [.int .i64 hd.k, .string ⟨hd.l.toArray⟩, va, .int .i64 hd.n, .int .i64 hd.d, .string ⟨hd.x.toArray⟩, vk] ∧ AttrsLie W va hd.ats ∧ Lies W vk ks := by
  obtain ⟨fa, fb, hu, ta, oa, tb, ob⟩ := tfields
  obtain ⟨xs, m, _, hxx, hcl, hxl, hj⟩ := DataW.trod_struct hu h
  rw [cellsTree] at hcl
  obtain ⟨x0, x1, rfl⟩ : ∃ x0 x1, xs = [x0, x1] := by
    match xs, hxl with
    | [x0, x1], _ => exact ⟨x0, x1, rfl⟩
  obtain ⟨c0, c1, c2, c3, c4, c5, c6, rfl⟩ : ∃ c0 c1 c2 c3 c4 c5 c6, cs = [c0, c1, c2, c3, c4, c5, c6] := by
    match cs, hcl with
    | [c0, c1, c2, c3, c4, c5, c6], _ => exact ⟨c0, c1, c2, c3, c4, c5, c6, rfl⟩
  have j0 := hj 0 fa rfl
  have j1 := hj 1 fb rfl
  rw [ta, oa, cellsHead] at j0
  rw [tb, ob, cellsTrees] at j1
  simp at j0 j1
  rw [hxx] at hf
  have hf0 : Fits 27 x0.1 := fun n hn => hf n (by
    simp only [DataW.weights, hu]
    exact DataW.weights_mem_each (j := 0) (t := 27) (d := x0.1) (by simp [ta]) (by simp) n hn)
  have hf1 : Fits 28 x1.1 := fun n hn => hf n (by
    simp only [DataW.weights, hu]
    exact DataW.weights_mem_each (j := 1) (t := 28) (d := x1.1) (by simp [tb]) (by simp) n hn)
  obtain ⟨hd, va, e, ha⟩ := head_open j0 hf0
  obtain ⟨ks, hk⟩ := trees_open m j1 hf1
  simp only [List.cons.injEq, and_true] at e
  obtain ⟨rfl, rfl, rfl, rfl, rfl, rfl⟩ := e
  exact ⟨hd, ks, c2, c6, rfl, ha, hk⟩
end
end Go.Proofs.YtefongoinlcgaaaGreat
