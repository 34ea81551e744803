/- The specification's way of reading a text: plain mathematics. -/
import Derived.Test.YtgefidffhdanhaaMathE
namespace Go.Proofs.Ytgefidffhdanhaa

/-- where a byte is first. -/
def findAt (c : UInt8) (l : List UInt8) : Nat := l.findIdx (· == c)
theorem findAt_le (c : UInt8) (l : List UInt8) : findAt c l ≤ l.length := List.findIdx_le_length

/-- a whole number without a sign, and without a zero ahead of others. -/
def countR (l : List UInt8) (most : Int) : Int × Bool :=
  if ((1 ≤ l.length ∧ (l.length : Int) ≤ most) ∧ ¬ (1 < l.length ∧ l.getD 0 0 = 48)) ∧ l.all isDig = true then ((valN l : Int), true) else (0, false)
theorem countR_yes {l : List UInt8} {most : Int} (h : ((1 ≤ l.length ∧ (l.length : Int) ≤ most) ∧ ¬ (1 < l.length ∧ l.getD 0 0 = 48)) ∧ l.all isDig = true) : countR l most = ((valN l : Int), true) := if_pos h
theorem countR_no {l : List UInt8} {most : Int} (h : ¬ (((1 ≤ l.length ∧ (l.length : Int) ≤ most) ∧ ¬ (1 < l.length ∧ l.getD 0 0 = 48)) ∧ l.all isDig = true)) : countR l most = (0, false) := if_neg h
theorem countR_true {l : List UInt8} {most : Int} (h : (countR l most).2 = true) : ((1 ≤ l.length ∧ (l.length : Int) ≤ most) ∧ ¬ (1 < l.length ∧ l.getD 0 0 = 48)) ∧ l.all isDig = true := by
  unfold countR at h; split at h
  · assumption
  · cases h
theorem count_dig {l : List UInt8} {most : Int} (h : (countR l most).2 = true) : digR l most = countR l most := by
  have k := countR_true h
  rw [countR_yes k, digR_yes ⟨k.1.1, k.2⟩]
theorem dig_count {l : List UInt8} {most : Int} (h : (digR l most).2 = true) (k : ¬ (1 < l.length ∧ l.getD 0 0 = 48)) : countR l most = digR l most := by
  have j := digR_true h
  rw [countR_yes ⟨⟨j.1, k⟩, j.2⟩, digR_yes j]

/-- a decimal. -/
def rdecR (f b : List UInt8) (s : Int) : Int × Int × Int :=
  if (countR f 9).2 = true ∧ (digR b 9).2 = true then lowT (s * ((valN f : Int) * p10 b.length + (valN b : Int))) (p10 b.length) else (0, 0, 1)
theorem rdecR_eq (f b : List UInt8) (s : Int) : rdecR f b s = decR f b s := by
  unfold rdecR
  by_cases h : (countR f 9).2 = true ∧ (digR b 9).2 = true
  · rw [if_pos h, decR_yes]
    have k := countR_true h.1
    exact ⟨⟨by rw [count_dig h.1]; exact h.1, h.2⟩, k.1.2⟩
  · rw [if_neg h, decR_no]
    intro k
    exact h ⟨by rw [dig_count k.1.1 k.2]; exact k.1.1, k.1.2⟩

/-- a fraction: the front, and what is behind the slash, if there is one. -/
def rfracR (l f b : List UInt8) (v : Int) : Int × Int × Int :=
  if ((countR f 10).2 = true ∧ (countR b 10).2 = true) ∧ chk v (valN b : Int) = 0 ∧ toldS v (valN b : Int) = l then (v, (valN b : Int), 0) else (0, 0, 1)
theorem rfracR_yes {l f b : List UInt8} {v : Int} (h : ((countR f 10).2 = true ∧ (countR b 10).2 = true) ∧ chk v (valN b : Int) = 0 ∧ toldS v (valN b : Int) = l) : rfracR l f b v = (v, (valN b : Int), 0) := if_pos h
theorem rfracR_no {l f b : List UInt8} {v : Int} (h : ¬ (((countR f 10).2 = true ∧ (countR b 10).2 = true) ∧ chk v (valN b : Int) = 0 ∧ toldS v (valN b : Int) = l)) : rfracR l f b v = (0, 0, 1) := if_neg h

def rparseT (l : List UInt8) : Int × Int × Int :=
  if findAt 46 (bodyOf l) < (bodyOf l).length then rdecR ((bodyOf l).take (findAt 46 (bodyOf l))) ((bodyOf l).drop (findAt 46 (bodyOf l) + 1)) (factorOf l)
  else rfracR l ((bodyOf l).take (findAt 47 (bodyOf l))) (if findAt 47 (bodyOf l) < (bodyOf l).length then (bodyOf l).drop (findAt 47 (bodyOf l) + 1) else [49]) (signed (isNeg l) (valN ((bodyOf l).take (findAt 47 (bodyOf l)))))

theorem digs_zero (k : Nat) : ¬ (1 < (digs k).length ∧ (digs k).getD 0 0 = 48) := by
  induction k using Nat.strongRecOn with
  | _ n ih =>
    by_cases h : n < 10
    · rw [digs_lt h]; simp
    · rw [digs_ge h]
      rintro ⟨-, h2⟩
      have h3 := digs_len_pos (n / 10)
      have e : (digs (n / 10) ++ [dig n]).getD 0 0 = (digs (n / 10)).getD 0 0 := by
        cases hd : digs (n / 10) with
        | nil => rw [hd] at h3; simp at h3
        | cons c t => rfl
      rw [e] at h2
      by_cases h4 : 1 < (digs (n / 10)).length
      · exact ih (n / 10) (by omega) ⟨h4, h2⟩
      · have h5 : n / 10 < 10 := by
          by_cases h6 : n / 10 < 10
          · exact h6
          · rw [digs_ge h6] at h4
            have := digs_len_pos (n / 10 / 10)
            rw [List.length_append] at h4
            simp only [List.length_cons, List.length_nil] at h4
            omega
        rw [digs_lt h5] at h2
        have h6 : (dig (n / 10)).toNat = 48 := by
          have : dig (n / 10) = 48 := h2
          rw [this]; rfl
        rw [dig_nat] at h6
        omega

theorem findAt_get {c : UInt8} {l : List UInt8} (h : findAt c l < l.length) : l[findAt c l] = c := by
  have := List.findIdx_getElem (w := h)
  exact LawfulBEq.eq_of_beq this
theorem mark_get {l : List UInt8} (h : markAt l < l.length) : isMark l[markAt l] = true := List.findIdx_getElem (w := h)
theorem mark_slash {c : UInt8} (h : isMark c = true) (n : (c == 46) = false) : c = 47 := by
  unfold isMark at h
  rw [n, Bool.or_false] at h
  exact LawfulBEq.eq_of_beq h

/-- told, the front is that of the number. -/
theorem told_front {v : Int} {b l : List UInt8} (h : toldS v (valN b : Int) = l) : cutF (bodyOf l) = digs v.natAbs ∧ (cutM (bodyOf l) = 0 ∨ cutB (bodyOf l) = digs (valN b)) := by
  subst h
  rw [told_rest, body_told, cutF_digs (digs_all _) (rest_mark _), cutM_digs (digs_all _) (rest_mark _), cutB_digs (digs_all _) (rest_mark _)]
  refine ⟨rfl, ?_⟩
  unfold restS
  split
  · exact .inl rfl
  · exact .inr (by simp)

theorem rparse_eq (l : List UInt8) : rparseT l = parseT l := by
  unfold rparseT parseT
  by_cases hp : findAt 46 (bodyOf l) < (bodyOf l).length
  · rw [if_pos hp, rdecR_eq]
    have hat' := findAt_get hp
    by_cases hs : markAt (bodyOf l) < findAt 46 (bodyOf l)
    · -- a slash is ahead of the point
      have hlt : markAt (bodyOf l) < (bodyOf l).length := by omega
      have hn : ((bodyOf l)[markAt (bodyOf l)] == 46) = false := by
        have := List.not_of_lt_findIdx hs
        simpa using this
      have h47 := mark_slash (mark_get hlt) hn
      have hc : cutM (bodyOf l) = 47 := by
        unfold cutM
        rw [List.getD_eq_getElem?_getD, List.getElem?_eq_getElem hlt, Option.getD_some, h47]
      rw [if_neg (by rw [hc]; decide), if_neg (by rw [hc]; decide)]
      rw [decR_no, fracR_no]
      · rintro ⟨⟨-, h2⟩, -⟩
        have h3 := (digR_true h2).2
        have h4 : (46 : UInt8) ∈ cutB (bodyOf l) := by
          unfold cutB
          rw [List.mem_drop_iff_getElem]
          exact ⟨findAt 46 (bodyOf l) - (markAt (bodyOf l) + 1), by omega, by simp only [show markAt (bodyOf l) + 1 + (findAt 46 (bodyOf l) - (markAt (bodyOf l) + 1)) = findAt 46 (bodyOf l) from by omega]; exact hat'⟩
        exact absurd (List.all_eq_true.1 h3 _ h4) (by decide)
      · rintro ⟨⟨h2, -⟩, -⟩
        have h3 := (digR_true h2).2
        have h4 : (47 : UInt8) ∈ (bodyOf l).take (findAt 46 (bodyOf l)) := by
          rw [List.mem_take_iff_getElem]
          exact ⟨markAt (bodyOf l), by omega, h47⟩
        exact absurd (List.all_eq_true.1 h3 _ h4) (by decide)
    · have he : markAt (bodyOf l) = findAt 46 (bodyOf l) := by
        have := markAt_here (k := findAt 46 (bodyOf l)) hp (by omega) (by rw [hat']; rfl)
        exact this
      have hc : cutM (bodyOf l) = 46 := by
        unfold cutM
        rw [he, List.getD_eq_getElem?_getD, List.getElem?_eq_getElem hp, Option.getD_some, hat']
      rw [if_pos hc]
      unfold cutF cutB
      rw [he]
  · rw [if_neg hp]
    have hno : ∀ c ∈ bodyOf l, (c == 46) = false := by
      intro c hc
      have h1 : findAt 46 (bodyOf l) = (bodyOf l).length := by have := findAt_le 46 (bodyOf l); omega
      have := List.findIdx_eq_length.1 h1 c hc
      simpa using this
    have he : findAt 47 (bodyOf l) = markAt (bodyOf l) := by
      unfold findAt markAt
      clear hp
      generalize bodyOf l = B at *
      induction B with
      | nil => rfl
      | cons c t ih =>
        have h1 := hno c (by simp)
        have h2 := ih (fun c hc => hno c (by simp [hc]))
        simp only [List.findIdx_cons, h2, isMark, h1, Bool.or_false]
    have hm : (cutM (bodyOf l) = 47 ∧ markAt (bodyOf l) < (bodyOf l).length) ∨ (cutM (bodyOf l) = 0 ∧ ¬ markAt (bodyOf l) < (bodyOf l).length) := by
      by_cases h : markAt (bodyOf l) < (bodyOf l).length
      · have h2 := hno _ (List.getElem_mem h)
        refine .inl ⟨?_, h⟩
        unfold cutM
        rw [List.getD_eq_getElem?_getD, List.getElem?_eq_getElem h, Option.getD_some]
        exact mark_slash (mark_get h) h2
      · refine .inr ⟨?_, h⟩
        unfold cutM
        rw [List.getD_eq_getElem?_getD, List.getElem?_eq_none (by omega)]; rfl
    rw [he]
    have hB : (if markAt (bodyOf l) < (bodyOf l).length then (bodyOf l).drop (markAt (bodyOf l) + 1) else [49]) = (if cutM (bodyOf l) = 0 then [49] else cutB (bodyOf l)) := by
      rcases hm with ⟨h1, h2⟩ | ⟨h1, h2⟩
      · rw [if_pos h2, if_neg (by rw [h1]; decide)]; rfl
      · rw [if_neg h2, if_pos h1]
    have hne : ¬ cutM (bodyOf l) = 46 := by rcases hm with ⟨h1, _⟩ | ⟨h1, _⟩ <;> rw [h1] <;> decide
    rw [hB, if_neg hne]
    show rfracR l (cutF (bodyOf l)) _ (signed (isNeg l) (valN (cutF (bodyOf l)))) = _
    by_cases h : ((digR (cutF (bodyOf l)) 10).2 = true ∧ (digR (if cutM (bodyOf l) = 0 then [49] else cutB (bodyOf l)) 10).2 = true) ∧ chk (signed (isNeg l) (valN (cutF (bodyOf l)))) (valN (if cutM (bodyOf l) = 0 then [49] else cutB (bodyOf l)) : Int) = 0 ∧ toldS (signed (isNeg l) (valN (cutF (bodyOf l)))) (valN (if cutM (bodyOf l) = 0 then [49] else cutB (bodyOf l)) : Int) = l
    · rw [fracR_yes h, rfracR_yes]
      obtain ⟨⟨h1, h2⟩, h3, h4⟩ := h
      obtain ⟨t1, t2⟩ := told_front h4
      refine ⟨⟨?_, ?_⟩, h3, h4⟩
      · rw [dig_count h1 (by rw [t1]; exact digs_zero _)]; exact h1
      · rw [dig_count h2 ?_]
        · exact h2
        · rcases t2 with t2 | t2
          · rw [if_pos t2]; decide
          · by_cases hz : cutM (bodyOf l) = 0
            · rw [if_pos hz]; decide
            · rw [if_neg hz, t2]; exact digs_zero _
    · rw [fracR_no h, rfracR_no]
      rintro ⟨⟨h1, h2⟩, h3, h4⟩
      exact h ⟨⟨by rw [count_dig h1]; exact h1, by rw [count_dig h2]; exact h2⟩, h3, h4⟩
end Go.Proofs.Ytgefidffhdanhaa
