/- What is printed is parsed as it was: plain mathematics. -/
import Derived.Test.YtgefidffhdanhaaNumR
import Derived.Test.YtgefidffhdanhaaMathC
namespace Go.Proofs.Ytgefidffhdanhaa

theorem dig_mark {c : UInt8} (h : isDig c = true) : isMark c = false := by
  unfold isDig at h
  simp only [Bool.and_eq_true, decide_eq_true_eq] at h
  unfold isMark
  have h1 : ¬ c = 47 := fun e => by rw [e] at h; revert h; decide
  have h2 : ¬ c = 46 := fun e => by rw [e] at h; revert h; decide
  simp [h1, h2]

theorem markAt_digs {f r : List UInt8} (h : f.all isDig = true) (hr : r = [] ∨ isMark (r.getD 0 0) = true) : markAt (f ++ r) = f.length := by
  unfold markAt
  induction f with
  | nil =>
    rcases hr with rfl | hr
    · rfl
    · cases r with
      | nil => rfl
      | cons c t =>
        have : isMark c = true := hr
        simp [List.findIdx_cons, this]
  | cons c f ih =>
    rw [List.all_cons, Bool.and_eq_true] at h
    rw [List.cons_append, List.findIdx_cons, dig_mark h.1, ih h.2]
    rfl
theorem cutF_digs {f r : List UInt8} (h : f.all isDig = true) (hr : r = [] ∨ isMark (r.getD 0 0) = true) : cutF (f ++ r) = f := by
  unfold cutF; rw [markAt_digs h hr]; simp
theorem cutM_digs {f r : List UInt8} (h : f.all isDig = true) (hr : r = [] ∨ isMark (r.getD 0 0) = true) : cutM (f ++ r) = r.getD 0 0 := by
  unfold cutM; rw [markAt_digs h hr, List.getD_eq_getElem?_getD, List.getD_eq_getElem?_getD, List.getElem?_append_right (Nat.le_refl _), Nat.sub_self]
theorem cutB_digs {f r : List UInt8} (h : f.all isDig = true) (hr : r = [] ∨ isMark (r.getD 0 0) = true) : cutB (f ++ r) = r.drop 1 := by
  unfold cutB; rw [markAt_digs h hr, List.drop_append]
  simp

/-- what is behind the numerator. -/
def restS (d : Int) : List UInt8 := if d = 1 then [] else 47 :: digs d.toNat
theorem told_rest (n d : Int) : toldS n d = signText n (digs n.natAbs ++ restS d) := by
  unfold toldS restS
  rw [numText1]
  have e : ((n.natAbs : Int)).toNat = n.natAbs := by omega
  rw [e]
  congr 2
  split
  · rfl
  · rw [numText1]; simp
theorem rest_mark (d : Int) : restS d = [] ∨ isMark ((restS d).getD 0 0) = true := by
  unfold restS; split
  · exact .inl rfl
  · exact .inr rfl

theorem digs_head (n : Nat) : ∃ c t, digs n = c :: t ∧ isDig c = true := by
  have h1 := digs_len_pos n
  have h2 := digs_all n
  cases h : digs n with
  | nil => rw [h] at h1; simp at h1
  | cons c t => rw [h] at h2; exact ⟨c, t, rfl, by simp at h2; exact h2.1⟩

theorem neg_told (n : Int) (k : Nat) (r : List UInt8) : isNeg (signText n (digs k ++ r)) = decide (n < 0) := by
  unfold signText
  split
  · rename_i h; rw [decide_eq_true h]; rfl
  · rename_i h
    rw [decide_eq_false h]
    obtain ⟨c, t, e, hd⟩ := digs_head k
    rw [e]
    show (c == 45) = false
    have h2 : ¬ c = 45 := fun e => by rw [e] at hd; revert hd; decide
    simpa using h2
theorem body_told (n : Int) (k : Nat) (r : List UInt8) : bodyOf (signText n (digs k ++ r)) = digs k ++ r := by
  unfold bodyOf
  rw [neg_told]
  unfold signText
  by_cases h : n < 0
  · rw [if_pos h, if_pos (decide_eq_true h)]; rfl
  · rw [if_neg h, if_neg (by simpa using h)]

theorem digR_digs {n : Nat} (h : n < 10000000000) : digR (digs n) 10 = ((n : Int), true) := by
  have h1 := digs_len_pos n
  have h2 := digs_len 9 n (by omega)
  rw [digR_yes ⟨⟨h1, by omega⟩, digs_all n⟩, valN_digs]

theorem parse_told {n d : Int} (h : chk n d = 0) : parseT (toldS n d) = (n, d, 0) := by
  have f := fit_of_chk h
  have g1 := f.nlo; have g2 := f.nhi; have g3 := f.dlo; have g4 := f.dhi
  have T := told_rest n d
  have hs : signed (decide (n < 0)) n.natAbs = n := by
    unfold signed; by_cases hn : n < 0
    · rw [if_pos (by simpa using hn)]; omega
    · rw [if_neg (by simpa using hn)]; omega
  have hm := rest_mark d
  have hd := digs_all n.natAbs
  unfold parseT
  have B : bodyOf (toldS n d) = digs n.natAbs ++ restS d := by rw [T, body_told]
  have N : isNeg (toldS n d) = decide (n < 0) := by rw [T, neg_told]
  rw [B, N, cutF_digs hd hm, cutM_digs hd hm, cutB_digs hd hm, valN_digs, hs]
  have k1 := digR_digs (n := n.natAbs) (by omega)
  by_cases hd1 : d = 1
  · subst hd1
    have e : restS 1 = [] := rfl
    rw [e]
    rw [if_neg (by decide), if_pos (by decide)]
    rw [fracR_yes ⟨⟨by rw [k1], by decide⟩, by exact h, by rfl⟩]
    rfl
  · have e : restS d = 47 :: digs d.toNat := if_neg hd1
    rw [e]
    have k2 := digR_digs (n := d.toNat) (by omega)
    have e2 : ((d.toNat : Nat) : Int) = d := by omega
    have e3 : ∀ t : List UInt8, (47 :: t).getD 0 0 = 47 := fun _ => rfl
    rw [e3, if_neg (by decide), if_neg (by decide)]
    show fracR _ _ (digs d.toNat) _ = _
    rw [fracR_yes ⟨⟨by rw [k1], by rw [k2]⟩, by rw [valN_digs, e2]; exact h, by rw [valN_digs, e2]⟩, valN_digs, e2]

theorem mem_of_getD {l : List UInt8} {k : Nat} {c : UInt8} (h : l.getD k 0 = c) (hc : ¬ c = 0) : c ∈ l := by
  by_cases hk : k < l.length
  · rw [List.getD_eq_getElem?_getD, List.getElem?_eq_getElem hk] at h
    subst h; exact List.getElem_mem hk
  · rw [List.getD_eq_getElem?_getD, List.getElem?_eq_none (by omega)] at h
    exact absurd h.symm hc
theorem mem_body {l : List UInt8} {c : UInt8} (h : c ∈ bodyOf l) : c ∈ l := by
  unfold bodyOf at h; split at h
  · exact List.mem_of_mem_drop h
  · exact h

/-- what a text is parsed as. -/
theorem parse_is (l : List UInt8) : (∃ x y, parseT l = (x, y, 0) ∧ chk x y = 0 ∧ (46 ∈ l ∨ toldS x y = l)) ∨ ∃ e, ¬ e = 0 ∧ parseT l = (0, 0, e) := by
  unfold parseT
  by_cases hm : cutM (bodyOf l) = 46
  · have hp : (46 : UInt8) ∈ l := mem_body (mem_of_getD hm (by decide))
    rw [if_pos hm]
    by_cases h : ((digR (cutF (bodyOf l)) 9).2 = true ∧ (digR (cutB (bodyOf l)) 9).2 = true) ∧ ¬ (1 < (cutF (bodyOf l)).length ∧ (cutF (bodyOf l)).getD 0 0 = 48)
    · rw [decR_yes h]
      have hb := (digR_true h.1.2).1.2
      have := p10_bd (cutB (bodyOf l)).length (by omega)
      rcases low_is (n := factorOf l * ((valN (cutF (bodyOf l)) : Int) * p10 (cutB (bodyOf l)).length + (valN (cutB (bodyOf l)) : Int))) (d := p10 (cutB (bodyOf l)).length) (by omega) with ⟨x, y, h1, h2, _⟩ | ⟨h1, _⟩
      · exact .inl ⟨x, y, h1, h2, .inl hp⟩
      · exact .inr ⟨8, by decide, h1⟩
    · rw [decR_no h]; exact .inr ⟨1, by decide, rfl⟩
  · rw [if_neg hm]
    by_cases h : ((digR (cutF (bodyOf l)) 10).2 = true ∧ (digR (if cutM (bodyOf l) = 0 then [49] else cutB (bodyOf l)) 10).2 = true) ∧ chk (signed (isNeg l) (valN (cutF (bodyOf l)))) (valN (if cutM (bodyOf l) = 0 then [49] else cutB (bodyOf l)) : Int) = 0 ∧ toldS (signed (isNeg l) (valN (cutF (bodyOf l)))) (valN (if cutM (bodyOf l) = 0 then [49] else cutB (bodyOf l)) : Int) = l
    · rw [fracR_yes h]; exact .inl ⟨_, _, rfl, h.2.1, .inr h.2.2⟩
    · rw [fracR_no h]; exact .inr ⟨1, by decide, rfl⟩
end Go.Proofs.Ytgefidffhdanhaa
