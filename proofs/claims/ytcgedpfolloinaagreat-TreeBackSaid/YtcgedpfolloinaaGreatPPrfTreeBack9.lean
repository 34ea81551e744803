/- What the proof of PrfTreeBack rests on, part 9 of 10. -/
import Derived.Test.YtcgedpfolloinaaGreatPPrfTreeBack8
namespace Go.Proofs.YtcgedpfolloinaaGreat
open Go.RowKit

theorem qbP_esc_text : ∀ (s r : List UInt8), (∀ c ∈ s, printB c = true) → qbP (escQ s ++ 34 :: r) = some (s, r)
  | [], r, _ => by rw [show escQ [] ++ 34 :: r = 34 :: r from rfl, qbP_end rfl]
  | c :: t, r, h => by
    have ih := qbP_esc_text t r (fun d hd => h d (by simp [hd]))
    have hc := h c (by simp)
    by_cases he : c.toNat = 34 ∨ c.toNat = 92
    · rw [show escQ (c :: t) = 92 :: c :: escQ t by simp [escQ, he], List.cons_append, List.cons_append, qbP_esc rfl he, ih]; rfl
    · rw [show escQ (c :: t) = c :: escQ t by simp [escQ, he], List.cons_append, qbP_put (fun e => he (.inl e)) (fun e => he (.inr e)) hc, ih]; rfl
theorem quoP_quo (s r : List UInt8) (h : ∀ c ∈ s, printB c = true) : quoP (quoQ s ++ r) = some (s, r) := by
  have : quoQ s ++ r = 34 :: (escQ s ++ 34 :: r) := by simp [quoQ]
  rw [this, quoP_yes rfl, qbP_esc_text s r h]
theorem printable_all {s : List UInt8} {m : Int} (h : printableB s m = true) : ∀ c ∈ s, printB c = true := by
  unfold printableB at h
  simp only [Bool.and_eq_true, List.all_eq_true] at h
  exact h.1
/-- no byte of a word is at the front. -/
def Stops (r : List UInt8) : Prop := ∀ c, r.head? = some c → letterB c = false ∧ digitB c = false
theorem wordLen_name {n r : List UInt8} (h : namedB n = true) (hr : Stops r) : wordLen (n ++ r) = n.length := by
  unfold namedB at h
  simp only [Bool.and_eq_true, List.all_eq_true, List.mem_range] at h
  refine wordLen_at (fun j hj => ?_) (by simp) ?_
  · have := h.1 j hj
    unfold nameAt at this ⊢
    rw [List.getD_eq_getElem?_getD, List.getElem?_append_left hj, ← List.getD_eq_getElem?_getD]
    exact this
  · cases r with
    | nil => left; simp
    | cons c t =>
      right
      have h2 := hr c rfl
      unfold nameAt
      rw [List.getD_eq_getElem?_getD, List.getElem?_append_right (Nat.le_refl _)]
      simp only [Nat.sub_self, List.getElem?_cons_zero, Option.getD_some, h2.1, h2.2]
      simp
theorem named_len {n : List UInt8} (h : namedB n = true) : 1 ≤ n.length := by
  unfold namedB at h
  simp only [Bool.and_eq_true, decide_eq_true_eq] at h
  exact h.2.1
theorem attrP_app {n v r : List UInt8} (hn : namedB n = true) (hv : ∀ c ∈ v, printB c = true) : attrP (n ++ 61 :: (quoQ v ++ r)) = some ((n, v), r) := by
  have hl := wordLen_name (r := 61 :: (quoQ v ++ r)) hn (fun c hc => by simp at hc; subst hc; decide)
  have h1 := named_len hn
  unfold attrP
  rw [hl, if_neg (by omega), List.drop_left, List.take_left]
  simp only [show (61 : UInt8).toNat = 61 from rfl, if_true]
  rw [quoP_quo v r hv]; rfl
def AtsOk (a : List (List UInt8 × List UInt8)) : Prop := ∀ q ∈ a, namedB q.1 = true ∧ ∀ c ∈ q.2, printB c = true
theorem attrsErr_ok : ∀ (b : List UInt8) (a : List (List UInt8 × List UInt8)), attrsErr b a = 0 → AtsOk a
  | _, [], _ => fun q hq => by cases hq
  | b, (n, v) :: r, h => by
    rw [attrsErr] at h
    cases h1 : namedB n with
    | false => rw [h1] at h; simp at h
    | true =>
      rw [h1] at h
      simp only [Bool.true_eq_false, if_false] at h
      cases h2 : leB n b with
      | true => rw [h2] at h; simp at h
      | false =>
        rw [h2] at h
        simp only [Bool.false_eq_true, if_false] at h
        cases h3 : printableB v 12 with
        | false => rw [h3] at h; simp at h
        | true =>
          rw [h3] at h
          simp only [Bool.true_eq_false, if_false] at h
          intro q hq
          rcases List.mem_cons.1 hq with rfl | hq
          · exact ⟨h1, printable_all h3⟩
          · exact attrsErr_ok n r h q hq
theorem attrsP_app : ∀ (a : List (List UInt8 × List UInt8)) (m : Nat) (r : List UInt8), AtsOk a → a.length ≤ m → attrsP m (atsQ 44 a ++ 41 :: r) = some (a, 41 :: r)
  | [], m, r, _, _ => attrsP_stop (by simp [atsQ])
  | q :: t, 0, r, _, hm => by simp at hm
  | q :: t, m + 1, r, h, hm => by
    have ih := attrsP_app t m r (fun x hx => h x (by simp [hx])) (by simpa using hm)
    have hq := h q (by simp)
    rw [show atsQ 44 (q :: t) ++ 41 :: r = 44 :: (q.1 ++ 61 :: (quoQ q.2 ++ (atsQ 44 t ++ 41 :: r))) by simp [atsQ], attrsP_more rfl, attrP_app hq.1 hq.2]
    simp only
    rw [ih]; rfl
theorem atsQ_length (m : UInt8) : ∀ a : List (List UInt8 × List UInt8), a.length ≤ (atsQ m a).length
  | [] => by simp
  | q :: t => by have := atsQ_length 44 t; simp only [atsQ, List.length_cons, List.length_append]; omega
theorem optA_app {a : List (List UInt8 × List UInt8)} {r : List UInt8} (h : AtsOk a) (hr : r.head? ≠ some 40) : optA (attrsQ a ++ r) = some (a, r) := by
  cases a with
  | nil => exact optA_no hr
  | cons q t =>
    have hq := h q (by simp)
    have ht := attrsP_app t (atsQ 44 t ++ 41 :: r).length r (fun x hx => h x (by simp [hx])) (by have := atsQ_length 44 t; simp; omega)
    rw [show attrsQ (q :: t) ++ r = 40 :: (q.1 ++ 61 :: (quoQ q.2 ++ (atsQ 44 t ++ 41 :: r))) by simp [attrsQ, atsQ]]
    rw [show ∀ u, optA (40 :: u) = (attributesP u).bind fun x => expP 41 x.1 x.2 from fun _ => rfl]
    unfold attributesP
    rw [attrP_app hq.1 hq.2]
    simp only
    rw [ht]; rfl
theorem told_bytes {n d : Int} : ∀ c ∈ toldS n d, numB c = true := by
  have hd : ∀ k, ∀ c ∈ digs k, numB c = true := fun k c hc => by
    have := List.all_eq_true.1 (digs_all k) c hc
    unfold isDig at this
    simp only [Bool.and_eq_true, decide_eq_true_eq] at this
    unfold numB; simp; omega
  intro c hc
  rw [told_rest] at hc
  have hr : ∀ c ∈ digs n.natAbs ++ restS d, numB c = true := by
    intro c hc
    rcases List.mem_append.1 hc with h | h
    · exact hd _ c h
    · unfold restS at h
      split at h
      · cases h
      · rcases List.mem_cons.1 h with rfl | h
        · decide
        · exact hd _ c h
  unfold signText at hc
  split at hc
  · rcases List.mem_cons.1 hc with rfl | h
    · decide
    · exact hr c h
  · exact hr c hc
theorem figP_app {n d : Int} {r : List UInt8} (h : chk n d = 0) (hr : ∀ c, r.head? = some c → numB c = false) : figP (toldS n d ++ r) = some ((n, d), r) := by
  have hl : numLen (toldS n d ++ r) = (toldS n d).length := by
    refine numLen_at (fun j hj hlt => ?_) (by simp) (fun hk => ?_)
    · rw [List.getElem_append_left hlt]
      exact told_bytes _ (List.getElem_mem _)
    · rw [List.getElem_append_right (Nat.le_refl _)]
      apply hr
      cases r with
      | nil => simp at hk
      | cons c t => simp
  unfold figP
  rw [hl, List.take_left, List.drop_left, parse_told h]
  rfl
/-- what comes behind a tree: nothing, a blank, or a closing bracket. -/
def Ends (r : List UInt8) : Prop := ∀ c, r.head? = some c → c = 32 ∨ c = 125
theorem ends_stop {r : List UInt8} (h : Ends r) : Stops r := fun c hc => by rcases h c hc with rfl | rfl <;> decide
theorem ends_num {r : List UInt8} (h : Ends r) : ∀ c, r.head? = some c → numB c = false := fun c hc => by rcases h c hc with rfl | rfl <;> decide
theorem ends_not {r : List UInt8} (h : Ends r) {k : UInt8} (h1 : k ≠ 32) (h2 : k ≠ 125) : r.head? ≠ some k := fun e => by rcases h k e with e | e; exact h1 e; exact h2 e
theorem told_head (n d : Int) : ∃ c t, toldS n d = c :: t ∧ (c.toNat = 45 ∨ digitB c = true) := by
  obtain ⟨c, t, e, hd⟩ := digs_head n.natAbs
  rw [told_rest, e]
  unfold signText
  split
  · exact ⟨45, _, rfl, .inl rfl⟩
  · refine ⟨c, t ++ restS d, rfl, .inr ?_⟩
    unfold isDig at hd
    simp only [Bool.and_eq_true, decide_eq_true_eq] at hd
    simpa [digitB] using hd
theorem name_head {n : List UInt8} (h : namedB n = true) : ∃ c t, n = c :: t ∧ letterB c = true := by
  cases n with
  | nil => exact absurd h (by decide)
  | cons c t =>
    refine ⟨c, t, rfl, ?_⟩
    unfold namedB at h
    simp only [Bool.and_eq_true, List.all_eq_true, List.mem_range] at h
    have := h.1 0 (by simp)
    simpa [nameAt] using this
theorem beginP_word {n r : List UInt8} (h : namedB n = true) (hr : Stops r) : beginP (n ++ r) = some (⟨0, n, [], 0, 0, []⟩, r) := by
  have hl := wordLen_name h hr
  have h1 := named_len h
  obtain ⟨c, t, rfl, hc⟩ := name_head h
  simp only [letterB, decide_eq_true_eq] at hc
  rw [List.cons_append] at hl ⊢
  rw [show beginP (c :: (t ++ r)) = if wordLen (c :: (t ++ r)) = 0 then none else some (⟨0, (c :: (t ++ r)).take (wordLen (c :: (t ++ r))), [], 0, 0, []⟩, (c :: (t ++ r)).drop (wordLen (c :: (t ++ r)))) by
    unfold beginP
    simp only
    rw [if_neg (by omega), if_neg (by simp [digitB]; omega)]]
  rw [hl, if_neg (by omega), ← List.cons_append, List.take_left, List.drop_left]
theorem beginP_num {n d : Int} {r : List UInt8} (h : chk n d = 0) (hr : Ends r) : beginP (toldS n d ++ r) = some (⟨1, [], [], n, d, []⟩, r) := by
  have hf := figP_app h (ends_num hr)
  obtain ⟨c, t, e, hc⟩ := told_head n d
  rw [e, List.cons_append] at hf ⊢
  unfold beginP
  simp only
  rw [if_neg (by rcases hc with h | h; omega; simp [digitB] at h; omega), if_pos hc, hf]; rfl
theorem beginP_quo {s r : List UInt8} (h : ∀ c ∈ s, printB c = true) : beginP (quoQ s ++ r) = some (⟨2, [], [], 0, 0, s⟩, r) := by
  have hq := quoP_quo s r h
  rw [show quoQ s ++ r = 34 :: (escQ s ++ [34] ++ r) by simp [quoQ]] at hq ⊢
  unfold beginP
  simp only
  rw [if_pos (show (34 : UInt8).toNat = 34 from rfl), hq]; rfl
theorem treeP_app {F : List UInt8 → Option (Fo × List UInt8)} {h : Hd} {ks : Fo} {r : List UInt8} (he : headErr h = 0) (hk : h.k ≠ 0 → ks = .nil) (hr : Ends r)
    (HF : ks.len ≠ 0 → F (foQ true ks ++ 125 :: r) = some (ks, 125 :: r)) : treeP F (treeQ h ks ++ r) = some ((h, ks), r) := by
  obtain ⟨k, l, ats, n, d, x⟩ := h
  unfold headErr at he
  cases hs : strayB ⟨k, l, ats, n, d, x⟩ with
  | true => rw [hs] at he; cases he
  | false =>
    rw [hs] at he
    simp only [Bool.false_eq_true, if_false] at he
    rcases plain_cases hs with ⟨rfl, rfl, rfl, rfl⟩ | ⟨rfl, rfl, rfl, rfl⟩ | ⟨rfl, rfl, rfl, rfl, rfl⟩
    · simp only [show ((0 : Int) = 1) = False by simp, show ((0 : Int) = 2) = False by simp, if_false] at he
      unfold elemErr at he
      simp only at he
      cases hn : namedB l with
      | false => rw [hn] at he; simp at he
      | true =>
        rw [hn] at he
        simp only [Bool.true_eq_false, if_false] at he
        by_cases h3 : 3 < ats.length
        · rw [if_pos h3] at he; cases he
        · rw [if_neg h3] at he
          have ha := attrsErr_ok _ _ he
          have hK : ∀ K, (K = ([] : List UInt8) ∨ ∃ K', K = 123 :: K') → Stops (attrsQ ats ++ (K ++ r)) := by
            intro K hK c hc
            cases ats with
            | nil =>
              rcases hK with rfl | ⟨K', rfl⟩
              · exact ends_stop hr c hc
              · simp [attrsQ] at hc; subst hc; decide
            | cons q t => simp [attrsQ, atsQ] at hc; subst hc; decide
          by_cases h0 : ks.len = 0
          · have hks : ks = .nil := by cases ks with | nil => rfl | cons _ _ _ => simp [Fo.len] at h0
            subst hks
            rw [show treeQ ⟨0, l, ats, 0, 0, []⟩ .nil ++ r = l ++ (attrsQ ats ++ r) by simp [treeQ, elemQ, Fo.len]]
            rw [treeP_word (beginP_word hn (by have := hK [] (.inl rfl); simpa using this))]
            rw [optA_app ha (ends_not hr (by decide) (by decide))]
            simp only [Option.bind_some]
            rw [optK_no (ends_not hr (by decide) (by decide))]; rfl
          · rw [show treeQ ⟨0, l, ats, 0, 0, []⟩ ks ++ r = l ++ (attrsQ ats ++ 123 :: (foQ true ks ++ 125 :: r)) by simp [treeQ, elemQ, h0]]
            rw [treeP_word (beginP_word hn (by have := hK (123 :: (foQ true ks ++ [125])) (.inr ⟨_, rfl⟩); simpa using this))]
            rw [optA_app ha (by simp)]
            simp only [Option.bind_some]
            rw [show ∀ u, optK F (123 :: u) = (F u).bind fun x => expP 125 x.1 x.2 from fun _ => rfl, HF h0]; rfl
    · simp only [if_true] at he
      obtain rfl := hk (by simp)
      rw [show treeQ ⟨1, [], [], n, d, []⟩ .nil = toldS n d by unfold treeQ printE; simp [he]]
      exact treeP_leaf (beginP_num he hr) (by simp)
    · simp only [show ((2 : Int) = 1) = False by simp, if_false, if_true] at he
      obtain rfl := hk (by simp)
      have hp : printableB x 24 = true := by
        cases hx : printableB x 24 with
        | true => rfl
        | false => rw [hx] at he; simp at he
      rw [show treeQ ⟨2, [], [], 0, 0, x⟩ .nil = quoQ x from rfl]
      exact treeP_leaf (beginP_quo (printable_all hp)) (by simp)
theorem heads_parts {h : Hd} {ks r : Fo} (e : headsErr (.cons h ks r) = 0) : headErr h = 0 ∧ (h.k ≠ 0 → ks = .nil) ∧ headsErr ks = 0 ∧ headsErr r = 0 := by
  unfold headsErr at e
  by_cases h1 : headErr h ≠ 0
  · rw [if_pos h1] at e; exact absurd e h1
  rw [if_neg h1] at e
  by_cases h2 : h.k ≠ 0 ∧ ks.len ≠ 0
  · rw [if_pos h2] at e; cases e
  rw [if_neg h2] at e
  by_cases h3 : headsErr ks ≠ 0
  · rw [if_pos h3] at e; exact absurd e h3
  rw [if_neg h3] at e
  refine ⟨by simpa using h1, fun hk => ?_, by simpa using h3, e⟩
  cases ks with
  | nil => rfl
  | cons _ _ _ => exact absurd ⟨hk, by simp [Fo.len]⟩ h2
theorem rest_ends (g : Fo) {r : List UInt8} (hr : Ends r) : Ends (foQ false g ++ r) := by
  cases g with
  | nil => exact hr
  | cons h ks t => intro c hc; rw [foQ_cons] at hc; simp at hc; exact .inl hc.symm
/-- behind a forest: nothing, or a closing bracket. -/
def Shut (r : List UInt8) : Prop := ∀ c, r.head? = some c → c = 125
theorem shut_ends {r : List UInt8} (h : Shut r) : Ends r := fun c hc => .inr (h c hc)
theorem restP_app {F : List UInt8 → Option (Fo × List UInt8)} : ∀ (g : Fo) (m : Nat) (r : List UInt8), headsErr g = 0 → g.len ≤ m → Shut r →
    (∀ ks u, ks.deep + 1 ≤ g.deep → headsErr ks = 0 → ks.len ≠ 0 → Shut u → F (foQ true ks ++ u) = some (ks, u)) → restP (treeP F) m (foQ false g ++ r) = some (g, r)
  | .nil, m, r, _, _, hr, _ => restP_stop (fun e => by have := hr _ e; revert this; decide)
  | .cons h ks t, 0, r, _, hm, _, _ => by simp [Fo.len] at hm
  | .cons h ks t, m + 1, r, he, hm, hr, HF => by
    obtain ⟨h1, h2, h3, h4⟩ := heads_parts he
    have ih := restP_app (F := F) t m r h4 (by simp only [Fo.len] at hm; omega) hr (fun ks u hd he hl hu => HF ks u (by simp only [Fo.deep]; omega) he hl hu)
    have hT := treeP_app (F := F) (r := foQ false t ++ r) h1 h2 (rest_ends t (shut_ends hr)) (fun hl => HF ks _ (by simp only [Fo.deep]; omega) h3 hl (fun c hc => by simpa using hc.symm))
    rw [show foQ false (.cons h ks t) ++ r = 32 :: (treeQ h ks ++ (foQ false t ++ r)) by rw [foQ_cons]; simp, restP_more, hT]
    simp only [Option.bind_some]
    rw [ih]; rfl
theorem len_text : ∀ g : Fo, g.len ≤ (foQ false g).length
  | .nil => Nat.le_refl _
  | .cons h ks t => by have := len_text t; rw [foQ_cons]; simp [Fo.len]; omega
theorem forestP_app : ∀ (n : Nat) (g : Fo) (r : List UInt8), headsErr g = 0 → g.len ≠ 0 → g.deep ≤ n → Shut r → forestP n (foQ true g ++ r) = some (g, r)
  | _, .nil, _, _, hl, _, _ => by simp [Fo.len] at hl
  | 0, .cons h ks t, _, _, _, hd, _ => by simp [Fo.deep] at hd
  | n + 1, .cons h ks t, r, he, _, hd, hr => by
    obtain ⟨h1, h2, h3, h4⟩ := heads_parts he
    have HF : ∀ ks' u, ks'.deep ≤ n → headsErr ks' = 0 → ks'.len ≠ 0 → Shut u → forestP n (foQ true ks' ++ u) = some (ks', u) := fun ks' u a b c d => forestP_app n ks' u b c a d
    have hT := treeP_app (F := forestP n) (r := foQ false t ++ r) h1 h2 (rest_ends t (shut_ends hr)) (fun hl => HF ks _ (by simp only [Fo.deep] at hd; omega) h3 hl (fun c hc => by simpa using hc.symm))
    have hR := restP_app (F := forestP n) t (foQ false t ++ r).length r h4 (by have := len_text t; simp; omega) hr (fun ks' u a b c d => HF ks' u (by simp only [Fo.deep] at hd; omega) b c d)
    rw [forestP_eq, show foQ true (.cons h ks t) ++ r = treeQ h ks ++ (foQ false t ++ r) by rw [foQ_cons]; simp, hT]
    simp only [Option.bind_some]
    rw [hR]; rfl
theorem treeQ_pos {h : Hd} {ks : Fo} (he : headErr h = 0) : 1 ≤ (treeQ h ks).length := by
  obtain ⟨k, l, ats, n, d, x⟩ := h
  unfold headErr at he
  cases hs : strayB ⟨k, l, ats, n, d, x⟩ with
  | true => rw [hs] at he; cases he
  | false =>
    rw [hs] at he
    simp only [Bool.false_eq_true, if_false] at he
    rcases plain_cases hs with ⟨rfl, rfl, rfl, rfl⟩ | ⟨rfl, rfl, rfl, rfl⟩ | ⟨rfl, rfl, rfl, rfl, rfl⟩
    · simp only [show ((0 : Int) = 1) = False by simp, show ((0 : Int) = 2) = False by simp, if_false] at he
      unfold elemErr at he
      cases hn : namedB l with
      | false => simp only at he; rw [hn] at he; simp at he
      | true =>
        have := named_len hn
        simp [treeQ, elemQ]; omega
    · simp only [if_true] at he
      obtain ⟨c, t, e, _⟩ := told_head n d
      simp [treeQ, printE, he, e]
    · simp [treeQ, quoQ]
theorem deep_text : ∀ (g : Fo) (b : Bool), headsErr g = 0 → g.deep ≤ (foQ b g).length
  | .nil, _, _ => Nat.le_refl _
  | .cons h ks t, b, he => by
    obtain ⟨h1, h2, h3, h4⟩ := heads_parts he
    have a1 := deep_text ks true h3
    have a2 := deep_text t false h4
    have a3 := treeQ_pos (ks := ks) h1
    have a4 : (foQ true ks).length + 1 ≤ (treeQ h ks).length := by
      by_cases hk : h.k = 0
      · by_cases h0 : ks.len = 0
        · have hks : ks = .nil := by cases ks with | nil => rfl | cons _ _ _ => simp [Fo.len] at h0
          subst hks
          simpa [foQ] using a3
        · have : treeQ h ks = elemQ h ks := by unfold treeQ; rw [if_neg (by omega), if_neg (by omega)]
          rw [this]
          simp [elemQ, h0]; omega
      · rw [h2 hk] at a3 ⊢
        simpa [foQ] using a3
    rw [foQ_cons]
    simp only [Fo.deep, List.length_append]
    omega
/-- what is printed is parsed as it was. -/
theorem read_text {f : Fo} (h : headsErr f = 0) : readP (foQ true f) = some f := by
  cases f with
  | nil => rfl
  | cons hd ks t =>
    have hd' := deep_text (.cons hd ks t) true h
    have := forestP_app ((foQ true (.cons hd ks t)).length + 1) (.cons hd ks t) [] h (by simp [Fo.len]) (by omega) (fun c hc => by cases hc)
    rw [List.append_nil] at this
    have hne : foQ true (.cons hd ks t) ≠ [] := fun e => by
      rw [e] at hd'
      simp [Fo.deep] at hd'
    obtain ⟨c, u, e⟩ : ∃ c u, foQ true (.cons hd ks t) = c :: u := List.exists_cons_of_ne_nil hne
    rw [e] at this ⊢
    unfold readP
    simp only
    rw [this]
theorem heads_of {f : Fo} (h : foErr f = 0) : headsErr f = 0 := by
  unfold foErr at h
  by_cases h1 : 400 < f.size
  · rw [if_pos h1] at h; cases h
  rw [if_neg h1] at h
  by_cases h2 : 40 < f.deep
  · rw [if_pos h2] at h; cases h
  rwa [if_neg h2] at h
theorem parsed_text {f : Fo} (h : foErr f = 0) (hl : (foQ true f).length ≤ 20000) : parsed (foQ true f) = (f, 0) := by
  unfold parsed
  rw [if_neg (by omega), read_text (heads_of h)]
  exact if_pos h
theorem text_inj {f g : Fo} (hf : foErr f = 0) (hg : foErr g = 0) (e : foQ true f = foQ true g) : f = g := by
  have h1 := read_text (heads_of hf)
  have h2 := read_text (heads_of hg)
  rw [e, h2] at h1
  exact (Option.some.inj h1).symm
end Go.Proofs.YtcgedpfolloinaaGreat

namespace Go.Proofs.YtcgedpfolloinaaGreat
open Go.RowKit

def hdVal (h : Hd) (aa : Option Addr) (ca : Nat) : Value := .agg #[.int .i64 h.k, .string ⟨h.l.toArray⟩, .slice aa h.ats.length ca, .int .i64 h.n, .int .i64 h.d, .string ⟨h.x.toArray⟩]

set_option maxRecDepth 100000 in
set_option maxHeartbeats 2000000 in
theorem sameHead_refl (h : Hd) (aa : Option Addr) (ca : Nat) (ab : Option Addr) (cb : Nat) (w : World) (ha : AttrsLie w (.slice aa h.ats.length ca) h.ats) (hb : AttrsLie w (.slice ab h.ats.length cb) h.ats) :
    Calls Tryz.prog 63 #[hdVal h aa ca, hdVal h ab cb] w fun e w' => e = .returned (.bool true) ∧ Below w.heap.size w w' := by
  have HA := Lib.hid ha
  have HB := Lib.hid hb
  have hal : h.ats.length ≤ 4398046510976 := by
    rcases ha with ⟨_, _, _, h0⟩ | ⟨_, _, _, _, _, h0, _⟩
    · rw [h0]; simp
    · exact h0
  clear ha hb
  unfold hdVal
  go_enter Tryz.func63, Tryz.ntmps63
  go_wp2_with fail
  go_loopw [5] (fun i wr => ∃ k : Nat, i = .int .i64 k ∧ k ≤ h.ats.length ∧ wr.cell? ⟨w.heap.size, 2, none⟩ = some (.slice aa h.ats.length ca) ∧ wr.cell? ⟨w.heap.size + 1, 2, none⟩ = some (.slice ab h.ats.length cb) ∧ w.heap.size + 1 < wr.heap.size ∧ Below w.heap.size w wr) (fun i _ => h.ats.length - (intOf i).toNat)
  case atStart => exact ⟨0, rfl, Nat.zero_le _, by simp [go_sem], by simp [go_sem], by simp, by ((repeat' (first | exact Below.refl _ _ | assumption | refine Below.setCell ?_ ?_ _ | refine bdrewN ?_ _ | refine Below.drew ?_ | refine Below.alloc ?_ ?_ _ | refine bbehind ?_ (by assumption) ?_)); all_goals first | (simp; done) | (simp; omega) | omega)⟩
  case round =>
    obtain ⟨k, rfl, hk, c1, c2, hsz, hbw⟩ := hrel
    have hz0 : w.heap.size < wr.heap.size := by omega
    by_cases hlt : k < h.ats.length
    · have dk : decide (k < h.ats.length) = true := by simpa using hlt
      obtain ⟨ba, oa, capa, hs, -, -, hba, hca⟩ := attrs_row HA.out (by omega)
      simp only [Value.slice.injEq] at hs
      obtain ⟨rfl, -, rfl⟩ := hs
      obtain ⟨bb, ob, capb, hs, -, -, hbb, hcb⟩ := attrs_row HB.out (by omega)
      simp only [Value.slice.injEq] at hs
      obtain ⟨rfl, -, rfl⟩ := hs
      obtain ⟨q1, q2⟩ := hca k hlt
      obtain ⟨q3, q4⟩ := hcb k hlt
      have q1 := (hbw.cell (p := ⟨ba, oa + k * 2, none⟩) hba).trans q1
      have q2 := (hbw.cell (p := ⟨ba, oa + k * 2 + 1, none⟩) hba).trans q2
      have q3 := (hbw.cell (p := ⟨bb, ob + k * 2, none⟩) hbb).trans q3
      have q4 := (hbw.cell (p := ⟨bb, ob + k * 2 + 1, none⟩) hbb).trans q4
      have k1 : ba < wr.heap.size := by omega
      have k2 : bb < wr.heap.size := by omega
      clear hca hcb
      generalize (h.ats.getD k ([], [])).1 = nm at *
      generalize (h.ats.getD k ([], [])).2 = vl at *
      go_wp2_with fail
      refine wp_region_quiet_all (fun w' => ∃ x : Lower _, w' = x.val) (by kernel_rfl) (by kernel_rfl) ⟨⟨_, (Below.refl _ _).drew⟩, rfl⟩ ?_
      repeat (go_big_quiet_step (fail))
      refine wpQuiet_nil ?_
      intro w2 hx2
      obtain ⟨x2, hx2⟩ := hx2
      have hb2 := x2.prop
      rw [← hx2] at hb2
      clear hx2 x2
      obtain ⟨hc2, hf2⟩ := bcell hb2
      have hs2 := hb2.size
      try simp at hs2
      try have hz20 : w.heap.size < w2.heap.size := by omega
      try have hz21 : w.heap.size + 1 < w2.heap.size := by omega
      try have hz22 : w.heap.size + 1 + 1 < w2.heap.size := by omega
      try have hz23 : w.heap.size + 1 + 1 + 1 < w2.heap.size := by omega
      try have hz24 : w.heap.size + 1 + 1 + 1 + 1 < w2.heap.size := by omega
      try have hz25 : w.heap.size + 1 + 1 + 1 + 1 + 1 < w2.heap.size := by omega
      try have hy1_2 : w1.heap.size < w2.heap.size := by omega
      go_wp2_with fail
      go_roundw
      case rel => exact ⟨k + 1, by go_num, by omega, by rw [hc2 _ _ hz0]; exact c1, by rw [hc2 _ _ hsz]; exact c2, by omega, hbw.trans (hb2.mono hbw.size)⟩
      case measure => simp [intOf]; omega
    · have dk : decide (k < h.ats.length) = false := by simpa using hlt
      go_wp2_with fail
      go_ret
      exact ⟨rfl, hbw⟩

set_option maxRecDepth 100000 in
set_option maxHeartbeats 2000000 in
theorem same_of (f : Fo) (v u : Value) (w : World) (hl : Lies w v f) (hg : Lies w u f)
    (HK : ∀ k h ks, k < f.len → f.drop k = .cons h ks (f.drop (k + 1)) → ∀ v u w, Lies w v ks → Lies w u ks → Calls Tryz.prog 35 #[v, u] w fun e w' => e = .returned (.bool true) ∧ Below w.heap.size w w') :
    Calls Tryz.prog 35 #[v, u] w fun e w' => e = .returned (.bool true) ∧ Below w.heap.size w w' := by
  have HL := Lib.hid hl
  have HG := Lib.hid hg
  have HKK := Lib.hid HK
  have hfl := lies_len hl
  obtain ⟨a, cap, rfl⟩ := lies_form hl
  obtain ⟨a', cap', rfl⟩ := lies_form hg
  clear hl hg HK
  go_enter Tryz.func35, Tryz.ntmps35
  go_wp2_with fail
  go_loopw [5] (fun i wr => ∃ k : Nat, i = .int .i64 k ∧ k ≤ f.len ∧ Below w.heap.size w wr) (fun i _ => f.len - (intOf i).toNat)
  case atStart => exact ⟨0, rfl, Nat.zero_le _, Below.refl _ _⟩
  case round =>
    obtain ⟨k, rfl, hk, hbw⟩ := hrel
    have hsz := hbw.size
    by_cases hlt : k < f.len
    · have dk : decide (k < f.len) = true := by simpa using hlt
      obtain ⟨bf, of, cp, hs, -, -, hbf, hrow⟩ := lies_row HL.out (by omega)
      simp only [Value.slice.injEq] at hs
      obtain ⟨rfl, -, rfl⟩ := hs
      obtain ⟨bg, og, cp', hs, -, -, hbg, hrow'⟩ := lies_row HG.out (by omega)
      simp only [Value.slice.injEq] at hs
      obtain ⟨rfl, -, rfl⟩ := hs
      obtain ⟨hd, ks, e, ⟨qa0, qa1, ⟨va, qa2, ha⟩, qa3, qa4, qa5⟩, vk, qa6, hlk⟩ := row_get hrow hlt
      obtain ⟨hd', ks', e', ⟨qb0, qb1, ⟨vb, qb2, hb⟩, qb3, qb4, qb5⟩, vl, qb6, hlk'⟩ := row_get hrow' hlt
      rw [e] at e'
      cases e'
      obtain ⟨aa, ca, rfl⟩ := attrs_form ha
      obtain ⟨ab, cb, rfl⟩ := attrs_form hb
      obtain ⟨ak, ck, rfl⟩ := lies_form hlk
      obtain ⟨al, cl, rfl⟩ := lies_form hlk'
      have ra0 := (hbw.cell (p := ⟨bf, of + k * 7, none⟩) hbf).trans qa0
      have ra1 := (hbw.cell (p := ⟨bf, of + k * 7 + 1, none⟩) hbf).trans qa1
      have ra2 := (hbw.cell (p := ⟨bf, of + k * 7 + 2, none⟩) hbf).trans qa2
      have ra3 := (hbw.cell (p := ⟨bf, of + k * 7 + 3, none⟩) hbf).trans qa3
      have ra4 := (hbw.cell (p := ⟨bf, of + k * 7 + 4, none⟩) hbf).trans qa4
      have ra5 := (hbw.cell (p := ⟨bf, of + k * 7 + 5, none⟩) hbf).trans qa5
      have ra6 := (hbw.cell (p := ⟨bf, of + k * 7 + 6, none⟩) hbf).trans qa6
      have rb0 := (hbw.cell (p := ⟨bg, og + k * 7, none⟩) hbg).trans qb0
      have rb1 := (hbw.cell (p := ⟨bg, og + k * 7 + 1, none⟩) hbg).trans qb1
      have rb2 := (hbw.cell (p := ⟨bg, og + k * 7 + 2, none⟩) hbg).trans qb2
      have rb3 := (hbw.cell (p := ⟨bg, og + k * 7 + 3, none⟩) hbg).trans qb3
      have rb4 := (hbw.cell (p := ⟨bg, og + k * 7 + 4, none⟩) hbg).trans qb4
      have rb5 := (hbw.cell (p := ⟨bg, og + k * 7 + 5, none⟩) hbg).trans qb5
      have rb6 := (hbw.cell (p := ⟨bg, og + k * 7 + 6, none⟩) hbg).trans qb6
      have k1 : bf < wr.heap.size := by omega
      have k2 : bg < wr.heap.size := by omega
      have SH := Lib.hid (fun (x : Lower wr) => calls_lower x (sameHead_refl hd aa ca ab cb x.val (attrs_below (attrs_below ha hbw) x.prop) (attrs_below (attrs_below hb hbw) x.prop)))
      have SK := Lib.hid (fun (x : Lower wr) => calls_lower x (HKK.out k hd ks hlt e _ _ x.val (lies_below (lies_below hlk hbw) x.prop) (lies_below (lies_below hlk' hbw) x.prop)))
      unfold hdVal at SH
      clear e hrow hrow' ha hb hlk hlk' qa0 qa1 qa2 qa3 qa4 qa5 qa6 qb0 qb1 qb2 qb3 qb4 qb5 qb6
      go_wp2_with fail
      refine wp_region_quiet_all (fun w' => ∃ x : Lower _, w' = x.val) (by kernel_rfl) (by kernel_rfl) ⟨⟨_, (Below.refl _ _).drew⟩, rfl⟩ ?_
      repeat (go_big_quiet_step (first | (go_at_call 63; exact SH.out _) | (go_at_call 35; exact SK.out _)))
      refine wpQuiet_nil ?_
      intro w2 hx2
      obtain ⟨x2, hx2⟩ := hx2
      have hb2 := x2.prop
      rw [← hx2] at hb2
      clear hx2 x2
      obtain ⟨hc2, hf2⟩ := bcell hb2
      have hs2 := hb2.size
      try simp at hs2
      try have hz20 : w.heap.size < w2.heap.size := by omega
      try have hz21 : w.heap.size + 1 < w2.heap.size := by omega
      try have hz22 : w.heap.size + 1 + 1 < w2.heap.size := by omega
      try have hz23 : w.heap.size + 1 + 1 + 1 < w2.heap.size := by omega
      try have hz24 : w.heap.size + 1 + 1 + 1 + 1 < w2.heap.size := by omega
      try have hz25 : w.heap.size + 1 + 1 + 1 + 1 + 1 < w2.heap.size := by omega
      try have hy1_2 : w1.heap.size < w2.heap.size := by omega
      go_wp2_with fail
      go_roundw
      case rel => exact ⟨k + 1, by go_num, by omega, hbw.trans (hb2.mono hbw.size)⟩
      case measure => simp [intOf]; omega
    · have dk : decide (k < f.len) = false := by simpa using hlt
      go_wp2_with fail
      go_ret
      exact ⟨rfl, hbw⟩
theorem same_refl : ∀ (N : Nat) (f : Fo), f.size ≤ N → ∀ (v u : Value) (w : World), Lies w v f → Lies w u f → Calls Tryz.prog 35 #[v, u] w fun e w' => e = .returned (.bool true) ∧ Below w.heap.size w w' := by
  intro N
  induction N with
  | zero =>
    intro f hf v u w hl hg
    exact same_of f v u w hl hg (fun k h ks hk => by have := Fo.len_le_size f; omega)
  | succ N ih =>
    intro f hf v u w hl hg
    refine same_of f v u w hl hg (fun k h ks hk e v u w hl hg => ih ks ?_ v u w hl hg)
    have := Fo.size_app (f.take k) (f.drop k)
    rw [Fo.take_app_drop, e] at this
    simp only [Fo.size] at this
    omega
end Go.Proofs.YtcgedpfolloinaaGreat

namespace Go.Proofs.YtcgedpfolloinaaGreat
open Go.RowKit

set_option maxRecDepth 100000 in
set_option maxHeartbeats 2000000 in
theorem sameHead_k (h i : Hd) (aa : Option Addr) (ca : Nat) (ab : Option Addr) (cb : Nat) (w : World) (h1 : h.k ≠ i.k) :
    Calls Tryz.prog 63 #[hdVal h aa ca, hdVal i ab cb] w fun e w' => e = .returned (.bool false) ∧ Below w.heap.size w w' := by
  have b1 : (h.k != i.k) = true := by simpa using h1
  unfold hdVal
  go_enter Tryz.func63, Tryz.ntmps63
  go_wp2_with fail
  go_ret
  exact ⟨rfl, by ((repeat' (first | exact Below.refl _ _ | assumption | refine Below.setCell ?_ ?_ _ | refine bdrewN ?_ _ | refine Below.drew ?_ | refine Below.alloc ?_ ?_ _ | refine bbehind ?_ (by assumption) ?_)); all_goals first | (simp; done) | (simp; omega) | omega)⟩
set_option maxRecDepth 100000 in
set_option maxHeartbeats 2000000 in
theorem sameHead_l (h i : Hd) (aa : Option Addr) (ca : Nat) (ab : Option Addr) (cb : Nat) (w : World) (h1 : h.k = i.k) (h2 : h.l ≠ i.l) :
    Calls Tryz.prog 63 #[hdVal h aa ca, hdVal i ab cb] w fun e w' => e = .returned (.bool false) ∧ Below w.heap.size w w' := by
  have b1 : (h.k != i.k) = false := by simpa using h1
  have b2 : (h.l == i.l) = false := by simpa using h2
  unfold hdVal
  go_enter Tryz.func63, Tryz.ntmps63
  go_wp2_with fail
  go_ret
  exact ⟨rfl, by ((repeat' (first | exact Below.refl _ _ | assumption | refine Below.setCell ?_ ?_ _ | refine bdrewN ?_ _ | refine Below.drew ?_ | refine Below.alloc ?_ ?_ _ | refine bbehind ?_ (by assumption) ?_)); all_goals first | (simp; done) | (simp; omega) | omega)⟩
set_option maxRecDepth 100000 in
set_option maxHeartbeats 2000000 in
theorem sameHead_n (h i : Hd) (aa : Option Addr) (ca : Nat) (ab : Option Addr) (cb : Nat) (w : World) (h1 : h.k = i.k) (h2 : h.l = i.l) (h3 : h.n ≠ i.n) :
    Calls Tryz.prog 63 #[hdVal h aa ca, hdVal i ab cb] w fun e w' => e = .returned (.bool false) ∧ Below w.heap.size w w' := by
  have b1 : (h.k != i.k) = false := by simpa using h1
  have b2 : (h.l == i.l) = true := by simpa using h2
  have b3 : (h.n == i.n) = false := by simpa using h3
  unfold hdVal
  go_enter Tryz.func63, Tryz.ntmps63
  go_wp2_with fail
  go_ret
  exact ⟨rfl, by ((repeat' (first | exact Below.refl _ _ | assumption | refine Below.setCell ?_ ?_ _ | refine bdrewN ?_ _ | refine Below.drew ?_ | refine Below.alloc ?_ ?_ _ | refine bbehind ?_ (by assumption) ?_)); all_goals first | (simp; done) | (simp; omega) | omega)⟩
set_option maxRecDepth 100000 in
set_option maxHeartbeats 2000000 in
theorem sameHead_d (h i : Hd) (aa : Option Addr) (ca : Nat) (ab : Option Addr) (cb : Nat) (w : World) (h1 : h.k = i.k) (h2 : h.l = i.l) (h3 : h.n = i.n) (h4 : h.d ≠ i.d) :
    Calls Tryz.prog 63 #[hdVal h aa ca, hdVal i ab cb] w fun e w' => e = .returned (.bool false) ∧ Below w.heap.size w w' := by
  have b1 : (h.k != i.k) = false := by simpa using h1
  have b2 : (h.l == i.l) = true := by simpa using h2
  have b3 : (h.n == i.n) = true := by simpa using h3
  have b4 : (h.d == i.d) = false := by simpa using h4
  unfold hdVal
  go_enter Tryz.func63, Tryz.ntmps63
  go_wp2_with fail
  go_ret
  exact ⟨rfl, by ((repeat' (first | exact Below.refl _ _ | assumption | refine Below.setCell ?_ ?_ _ | refine bdrewN ?_ _ | refine Below.drew ?_ | refine Below.alloc ?_ ?_ _ | refine bbehind ?_ (by assumption) ?_)); all_goals first | (simp; done) | (simp; omega) | omega)⟩
set_option maxRecDepth 100000 in
set_option maxHeartbeats 2000000 in
theorem sameHead_x (h i : Hd) (aa : Option Addr) (ca : Nat) (ab : Option Addr) (cb : Nat) (w : World) (h1 : h.k = i.k) (h2 : h.l = i.l) (h3 : h.n = i.n) (h4 : h.d = i.d) (h5 : h.x ≠ i.x) :
    Calls Tryz.prog 63 #[hdVal h aa ca, hdVal i ab cb] w fun e w' => e = .returned (.bool false) ∧ Below w.heap.size w w' := by
  have b1 : (h.k != i.k) = false := by simpa using h1
  have b2 : (h.l == i.l) = true := by simpa using h2
  have b3 : (h.n == i.n) = true := by simpa using h3
  have b4 : (h.d == i.d) = true := by simpa using h4
  have b5 : (h.x == i.x) = false := by simpa using h5
  unfold hdVal
  go_enter Tryz.func63, Tryz.ntmps63
  go_wp2_with fail
  go_ret
  exact ⟨rfl, by ((repeat' (first | exact Below.refl _ _ | assumption | refine Below.setCell ?_ ?_ _ | refine bdrewN ?_ _ | refine Below.drew ?_ | refine Below.alloc ?_ ?_ _ | refine bbehind ?_ (by assumption) ?_)); all_goals first | (simp; done) | (simp; omega) | omega)⟩
set_option maxRecDepth 100000 in
set_option maxHeartbeats 2000000 in
theorem sameHead_a (h i : Hd) (aa : Option Addr) (ca : Nat) (ab : Option Addr) (cb : Nat) (w : World) (h1 : h.k = i.k) (h2 : h.l = i.l) (h3 : h.n = i.n) (h4 : h.d = i.d) (h5 : h.x = i.x) (h6 : h.ats.length ≠ i.ats.length) :
    Calls Tryz.prog 63 #[hdVal h aa ca, hdVal i ab cb] w fun e w' => e = .returned (.bool false) ∧ Below w.heap.size w w' := by
  have b1 : (h.k != i.k) = false := by simpa using h1
  have b2 : (h.l == i.l) = true := by simpa using h2
  have b3 : (h.n == i.n) = true := by simpa using h3
  have b4 : (h.d == i.d) = true := by simpa using h4
  have b5 : (h.x == i.x) = true := by simpa using h5
  have b6 : ((h.ats.length : Int) != (i.ats.length : Int)) = true := by simp; omega
  unfold hdVal
  go_enter Tryz.func63, Tryz.ntmps63
  go_wp2_with fail
  go_ret
  exact ⟨rfl, by ((repeat' (first | exact Below.refl _ _ | assumption | refine Below.setCell ?_ ?_ _ | refine bdrewN ?_ _ | refine Below.drew ?_ | refine Below.alloc ?_ ?_ _ | refine bbehind ?_ (by assumption) ?_)); all_goals first | (simp; done) | (simp; omega) | omega)⟩

set_option maxRecDepth 100000 in
set_option maxHeartbeats 4000000 in
theorem sameHead_ats (h : Hd) (ats : List (List UInt8 × List UInt8)) (aa : Option Addr) (ca : Nat) (ab : Option Addr) (cb : Nat) (w : World) (ha : AttrsLie w (.slice aa h.ats.length ca) h.ats) (hb : AttrsLie w (.slice ab ats.length cb) ats)
    (hlen : h.ats.length = ats.length) (hne : h.ats ≠ ats) :
    Calls Tryz.prog 63 #[hdVal h aa ca, hdVal { h with ats := ats } ab cb] w fun e w' => e = .returned (.bool false) ∧ Below w.heap.size w w' := by
  have HA := Lib.hid ha
  have HB := Lib.hid (show AttrsLie w (.slice ab h.ats.length cb) ats by rw [hlen]; exact hb)
  have HLEN := Lib.hid hlen
  have hal : h.ats.length ≤ 4398046510976 := by
    rcases ha with ⟨_, _, _, h0⟩ | ⟨_, _, _, _, _, h0, _⟩
    · rw [h0]; simp
    · exact h0
  have EXT := Lib.hid (show (∀ j, j < h.ats.length → h.ats.getD j ([], []) = ats.getD j ([], [])) → False from fun hj => hne (List.ext_getElem hlen fun j h1 h2 => by
    have := hj j h1
    rw [List.getD_eq_getElem?_getD, List.getD_eq_getElem?_getD, List.getElem?_eq_getElem h1, List.getElem?_eq_getElem h2] at this
    exact this))
  unfold hdVal
  simp only
  rw [← hlen]
  clear ha hb hne hlen
  go_enter Tryz.func63, Tryz.ntmps63
  go_wp2_with fail
  go_loopw [5] (fun i wr => ∃ k : Nat, i = .int .i64 k ∧ k ≤ h.ats.length ∧ (∀ j, j < k → h.ats.getD j ([], []) = ats.getD j ([], [])) ∧ wr.cell? ⟨w.heap.size, 2, none⟩ = some (.slice aa h.ats.length ca) ∧ wr.cell? ⟨w.heap.size + 1, 2, none⟩ = some (.slice ab h.ats.length cb) ∧ w.heap.size + 1 < wr.heap.size ∧ Below w.heap.size w wr) (fun i _ => h.ats.length - (intOf i).toNat)
  case atStart => exact ⟨0, rfl, Nat.zero_le _, fun j hj => absurd hj (by omega), by simp [go_sem], by simp [go_sem], by simp, by ((repeat' (first | exact Below.refl _ _ | assumption | refine Below.setCell ?_ ?_ _ | refine bdrewN ?_ _ | refine Below.drew ?_ | refine Below.alloc ?_ ?_ _ | refine bbehind ?_ (by assumption) ?_)); all_goals first | (simp; done) | (simp; omega) | omega)⟩
  case round =>
    obtain ⟨k, rfl, hk, hj, c1, c2, hsz, hbw⟩ := hrel
    have hz0 : w.heap.size < wr.heap.size := by omega
    have HJ := Lib.hid hj
    clear hj
    by_cases hlt : k < h.ats.length
    · have dk : decide (k < h.ats.length) = true := by simpa using hlt
      obtain ⟨ba, oa, capa, hs, -, -, hba, hca⟩ := attrs_row HA.out (by omega)
      simp only [Value.slice.injEq] at hs
      obtain ⟨rfl, -, rfl⟩ := hs
      obtain ⟨bb, ob, capb, hs, -, -, hbb, hcb⟩ := attrs_row HB.out (by have := HLEN.out; omega)
      simp only [Value.slice.injEq] at hs
      obtain ⟨rfl, -, rfl⟩ := hs
      obtain ⟨q1, q2⟩ := hca k hlt
      obtain ⟨q3, q4⟩ := hcb k (by have := HLEN.out; omega)
      have q1 := (hbw.cell (p := ⟨ba, oa + k * 2, none⟩) hba).trans q1
      have q2 := (hbw.cell (p := ⟨ba, oa + k * 2 + 1, none⟩) hba).trans q2
      have q3 := (hbw.cell (p := ⟨bb, ob + k * 2, none⟩) hbb).trans q3
      have q4 := (hbw.cell (p := ⟨bb, ob + k * 2 + 1, none⟩) hbb).trans q4
      have k1 : ba < wr.heap.size := by omega
      have k2 : bb < wr.heap.size := by omega
      clear hca hcb
      by_cases e1 : (h.ats.getD k ([], [])).1 = (ats.getD k ([], [])).1
      · by_cases e2 : (h.ats.getD k ([], [])).2 = (ats.getD k ([], [])).2
        · have HJ2 := Lib.hid (show ∀ j, j < k + 1 → h.ats.getD j ([], []) = ats.getD j ([], []) from fun j hj => (Nat.lt_or_ge j k).elim (HJ.out j) fun h' => by
            obtain rfl : j = k := by omega
            exact Prod.ext e1 e2)
          rw [← e1] at q3
          rw [← e2] at q4
          clear e1 e2
          generalize (h.ats.getD k ([], [])).1 = nm at *
          generalize (h.ats.getD k ([], [])).2 = vl at *
          go_wp2_with fail
          refine wp_region_quiet_all (fun w' => ∃ x : Lower _, w' = x.val) (by kernel_rfl) (by kernel_rfl) ⟨⟨_, (Below.refl _ _).drew⟩, rfl⟩ ?_
          repeat (go_big_quiet_step (fail))
          refine wpQuiet_nil ?_
          intro w2 hx2
          obtain ⟨x2, hx2⟩ := hx2
          have hb2 := x2.prop
          rw [← hx2] at hb2
          clear hx2 x2
          obtain ⟨hc2, hf2⟩ := bcell hb2
          have hs2 := hb2.size
          try simp at hs2
          try have hz20 : w.heap.size < w2.heap.size := by omega
          try have hz21 : w.heap.size + 1 < w2.heap.size := by omega
          try have hz22 : w.heap.size + 1 + 1 < w2.heap.size := by omega
          try have hz23 : w.heap.size + 1 + 1 + 1 < w2.heap.size := by omega
          try have hz24 : w.heap.size + 1 + 1 + 1 + 1 < w2.heap.size := by omega
          try have hz25 : w.heap.size + 1 + 1 + 1 + 1 + 1 < w2.heap.size := by omega
          try have hy1_2 : w1.heap.size < w2.heap.size := by omega
          go_wp2_with fail
          go_roundw
          case rel => exact ⟨k + 1, by go_num, by omega, HJ2.out, by rw [hc2 _ _ hz0]; exact c1, by rw [hc2 _ _ hsz]; exact c2, by omega, hbw.trans (hb2.mono hbw.size)⟩
          case measure => simp [intOf]; omega
        · rw [← e1] at q3
          have b2 : ((h.ats.getD k ([], [])).2 == (ats.getD k ([], [])).2) = false := by simpa using e2
          clear e1 e2
          generalize (h.ats.getD k ([], [])).1 = nm at *
          generalize (h.ats.getD k ([], [])).2 = vl at *
          generalize (ats.getD k ([], [])).2 = vl' at *
          go_wp2_with fail
          refine wp_region_quiet_all (fun w' => ∃ x : Lower _, w' = x.val) (by kernel_rfl) (by kernel_rfl) ⟨⟨_, (Below.refl _ _).drew⟩, rfl⟩ ?_
          repeat (go_big_quiet_step (fail))
          refine wpQuiet_nil ?_
          intro w2 hx2
          obtain ⟨x2, hx2⟩ := hx2
          have hb2 := x2.prop
          rw [← hx2] at hb2
          clear hx2 x2
          obtain ⟨hc2, hf2⟩ := bcell hb2
          have hs2 := hb2.size
          try simp at hs2
          try have hz20 : w.heap.size < w2.heap.size := by omega
          try have hz21 : w.heap.size + 1 < w2.heap.size := by omega
          try have hz22 : w.heap.size + 1 + 1 < w2.heap.size := by omega
          try have hz23 : w.heap.size + 1 + 1 + 1 < w2.heap.size := by omega
          try have hz24 : w.heap.size + 1 + 1 + 1 + 1 < w2.heap.size := by omega
          try have hz25 : w.heap.size + 1 + 1 + 1 + 1 + 1 < w2.heap.size := by omega
          try have hy1_2 : w1.heap.size < w2.heap.size := by omega
          go_wp2_with fail
          go_ret
          exact ⟨rfl, hbw.trans (hb2.mono hbw.size)⟩
      · have b1 : ((h.ats.getD k ([], [])).1 == (ats.getD k ([], [])).1) = false := by simpa using e1
        clear e1
        generalize (h.ats.getD k ([], [])).1 = nm at *
        generalize (h.ats.getD k ([], [])).2 = vl at *
        generalize (ats.getD k ([], [])).1 = nm' at *
        generalize (ats.getD k ([], [])).2 = vl' at *
        go_wp2_with fail
        refine wp_region_quiet_all (fun w' => ∃ x : Lower _, w' = x.val) (by kernel_rfl) (by kernel_rfl) ⟨⟨_, (Below.refl _ _).drew⟩, rfl⟩ ?_
        repeat (go_big_quiet_step (fail))
        refine wpQuiet_nil ?_
        intro w2 hx2
        obtain ⟨x2, hx2⟩ := hx2
        have hb2 := x2.prop
        rw [← hx2] at hb2
        clear hx2 x2
        obtain ⟨hc2, hf2⟩ := bcell hb2
        have hs2 := hb2.size
        try simp at hs2
        try have hz20 : w.heap.size < w2.heap.size := by omega
        try have hz21 : w.heap.size + 1 < w2.heap.size := by omega
        try have hz22 : w.heap.size + 1 + 1 < w2.heap.size := by omega
        try have hz23 : w.heap.size + 1 + 1 + 1 < w2.heap.size := by omega
        try have hz24 : w.heap.size + 1 + 1 + 1 + 1 < w2.heap.size := by omega
        try have hz25 : w.heap.size + 1 + 1 + 1 + 1 + 1 < w2.heap.size := by omega
        try have hy1_2 : w1.heap.size < w2.heap.size := by omega
        go_wp2_with fail
        go_ret
        exact ⟨rfl, hbw.trans (hb2.mono hbw.size)⟩
    · exact (EXT.out fun j hj => HJ.out j (by omega)).elim
theorem sameHead_ne (h i : Hd) (aa : Option Addr) (ca : Nat) (ab : Option Addr) (cb : Nat) (w : World) (ha : AttrsLie w (.slice aa h.ats.length ca) h.ats) (hb : AttrsLie w (.slice ab i.ats.length cb) i.ats) (hne : h ≠ i) :
    Calls Tryz.prog 63 #[hdVal h aa ca, hdVal i ab cb] w fun e w' => e = .returned (.bool false) ∧ Below w.heap.size w w' := by
  by_cases h1 : h.k = i.k
  · by_cases h2 : h.l = i.l
    · by_cases h3 : h.n = i.n
      · by_cases h4 : h.d = i.d
        · by_cases h5 : h.x = i.x
          · by_cases h6 : h.ats.length = i.ats.length
            · have e : i = { h with ats := i.ats } := by
                obtain ⟨a, b, c, d, e, f⟩ := h
                obtain ⟨a', b', c', d', e', f'⟩ := i
                simp only at h1 h2 h3 h4 h5
                subst h1 h2 h3 h4 h5
                rfl
              have := sameHead_ats h i.ats aa ca ab cb w ha hb h6 (fun e2 => hne (by rw [e, ← e2]))
              rw [← e] at this
              exact this
            · exact sameHead_a h i aa ca ab cb w h1 h2 h3 h4 h5 h6
          · exact sameHead_x h i aa ca ab cb w h1 h2 h3 h4 h5
        · exact sameHead_d h i aa ca ab cb w h1 h2 h3 h4
      · exact sameHead_n h i aa ca ab cb w h1 h2 h3
    · exact sameHead_l h i aa ca ab cb w h1 h2
  · exact sameHead_k h i aa ca ab cb w h1
end Go.Proofs.YtcgedpfolloinaaGreat

namespace Go.Proofs.YtcgedpfolloinaaGreat
open Go.RowKit

noncomputable def dec (p : Prop) : Bool := @decide p (Classical.propDecidable p)
theorem dec_pos {p : Prop} (h : p) : dec p = true := by unfold dec; simpa using h
theorem dec_neg {p : Prop} (h : ¬ p) : dec p = false := by unfold dec; simpa using h
theorem drop_take_eq {f g : Fo} {k : Nat} {h : Hd} {ks r r' : Fo} (e : f.drop k = .cons h ks r) (e' : g.drop k = .cons h ks r') (ht : f.take k = g.take k) : f.take (k + 1) = g.take (k + 1) := by
  rw [Fo.take_succ k f e, Fo.take_succ k g e', ht]
theorem take_full : ∀ (f : Fo) (k : Nat), f.len ≤ k → f.take k = f
  | .nil, k, _ => by cases k <;> rfl
  | .cons h ks r, 0, hk => by simp [Fo.len] at hk
  | .cons h ks r, k + 1, hk => by simp only [Fo.take]; rw [take_full r k (by simp only [Fo.len] at hk; omega)]

set_option maxRecDepth 100000 in
set_option maxHeartbeats 4000000 in
theorem same_len (f g : Fo) (v u : Value) (w : World) (hl : Lies w v f) (hg : Lies w u g) (h : f.len ≠ g.len) :
    Calls Tryz.prog 35 #[v, u] w fun e w' => e = .returned (.bool false) ∧ Below w.heap.size w w' := by
  obtain ⟨a, cap, rfl⟩ := lies_form hl
  obtain ⟨a', cap', rfl⟩ := lies_form hg
  have b1 : ((f.len : Int) != (g.len : Int)) = true := by simp; omega
  clear hl hg
  go_enter Tryz.func35, Tryz.ntmps35
  go_wp2_with fail
  go_ret
  exact ⟨rfl, Below.refl _ _⟩
set_option maxRecDepth 100000 in
set_option maxHeartbeats 4000000 in
theorem same_by (f g : Fo) (v u : Value) (w : World) (hl : Lies w v f) (hg : Lies w u g) (hlen : f.len = g.len)
    (HK : ∀ k h ks, k < f.len → f.drop k = .cons h ks (f.drop (k + 1)) → ∀ ks' v u w, Lies w v ks → Lies w u ks' → Calls Tryz.prog 35 #[v, u] w fun e w' => e = .returned (.bool (dec (ks = ks'))) ∧ Below w.heap.size w w') :
    Calls Tryz.prog 35 #[v, u] w fun e w' => e = .returned (.bool (dec (f = g))) ∧ Below w.heap.size w w' := by
  have HL := Lib.hid hl
  have HG := Lib.hid hg
  have HKK := Lib.hid HK
  have HLEN := Lib.hid hlen
  have hfl := lies_len hl
  obtain ⟨a, cap, rfl⟩ := lies_form hl
  obtain ⟨a', cap', rfl⟩ := lies_form hg
  obtain ⟨B, hB⟩ : ∃ B, dec (f = g) = B := ⟨_, rfl⟩
  have HB := Lib.hid hB
  rw [hB, ← hlen]
  clear hl hg HK hlen hB
  go_enter Tryz.func35, Tryz.ntmps35
  go_wp2_with fail
  go_loopw [5] (fun i wr => ∃ k : Nat, i = .int .i64 k ∧ k ≤ f.len ∧ f.take k = g.take k ∧ Below w.heap.size w wr) (fun i _ => f.len - (intOf i).toNat)
  case atStart => exact ⟨0, rfl, Nat.zero_le _, by cases f <;> cases g <;> rfl, Below.refl _ _⟩
  case round =>
    obtain ⟨k, rfl, hk, htk, hbw⟩ := hrel
    have hsz := hbw.size
    by_cases hlt : k < f.len
    · have dk : decide (k < f.len) = true := by simpa using hlt
      obtain ⟨bf, of, cp, hs, -, -, hbf, hrow⟩ := lies_row HL.out (by omega)
      simp only [Value.slice.injEq] at hs
      obtain ⟨rfl, -, rfl⟩ := hs
      obtain ⟨bg, og, cp', hs, -, -, hbg, hrow'⟩ := lies_row HG.out (by have := HLEN.out; omega)
      simp only [Value.slice.injEq] at hs
      obtain ⟨rfl, -, rfl⟩ := hs
      obtain ⟨hd, ks, e, ⟨qa0, qa1, ⟨va, qa2, ha⟩, qa3, qa4, qa5⟩, vk, qa6, hlk⟩ := row_get hrow hlt
      obtain ⟨hd', ks', e', ⟨qb0, qb1, ⟨vb, qb2, hb⟩, qb3, qb4, qb5⟩, vl, qb6, hlk'⟩ := row_get hrow' (show k < g.len by have := HLEN.out; omega)
      obtain ⟨aa, ca, rfl⟩ := attrs_form ha
      obtain ⟨ab, cb, rfl⟩ := attrs_form hb
      obtain ⟨ak, ck, rfl⟩ := lies_form hlk
      obtain ⟨al, cl, rfl⟩ := lies_form hlk'
      have ra0 := (hbw.cell (p := ⟨bf, of + k * 7, none⟩) hbf).trans qa0
      have ra1 := (hbw.cell (p := ⟨bf, of + k * 7 + 1, none⟩) hbf).trans qa1
      have ra2 := (hbw.cell (p := ⟨bf, of + k * 7 + 2, none⟩) hbf).trans qa2
      have ra3 := (hbw.cell (p := ⟨bf, of + k * 7 + 3, none⟩) hbf).trans qa3
      have ra4 := (hbw.cell (p := ⟨bf, of + k * 7 + 4, none⟩) hbf).trans qa4
      have ra5 := (hbw.cell (p := ⟨bf, of + k * 7 + 5, none⟩) hbf).trans qa5
      have ra6 := (hbw.cell (p := ⟨bf, of + k * 7 + 6, none⟩) hbf).trans qa6
      have rb0 := (hbw.cell (p := ⟨bg, og + k * 7, none⟩) hbg).trans qb0
      have rb1 := (hbw.cell (p := ⟨bg, og + k * 7 + 1, none⟩) hbg).trans qb1
      have rb2 := (hbw.cell (p := ⟨bg, og + k * 7 + 2, none⟩) hbg).trans qb2
      have rb3 := (hbw.cell (p := ⟨bg, og + k * 7 + 3, none⟩) hbg).trans qb3
      have rb4 := (hbw.cell (p := ⟨bg, og + k * 7 + 4, none⟩) hbg).trans qb4
      have rb5 := (hbw.cell (p := ⟨bg, og + k * 7 + 5, none⟩) hbg).trans qb5
      have rb6 := (hbw.cell (p := ⟨bg, og + k * 7 + 6, none⟩) hbg).trans qb6
      have k1 : bf < wr.heap.size := by omega
      have k2 : bg < wr.heap.size := by omega
      by_cases hh : hd = hd'
      · subst hh
        have SH := Lib.hid (fun (x : Lower wr) => calls_lower x (sameHead_refl hd aa ca ab cb x.val (attrs_below (attrs_below ha hbw) x.prop) (attrs_below (attrs_below hb hbw) x.prop)))
        have SK := Lib.hid (fun (x : Lower wr) => calls_lower x (HKK.out k hd ks hlt e ks' _ _ x.val (lies_below (lies_below hlk hbw) x.prop) (lies_below (lies_below hlk' hbw) x.prop)))
        unfold hdVal at SH
        by_cases hks : ks = ks'
        · subst hks
          have HT := Lib.hid (drop_take_eq e e' htk)
          rw [dec_pos rfl] at SK
          clear e e' htk
          clear hrow hrow' ha hb hlk hlk' qa0 qa1 qa2 qa3 qa4 qa5 qa6 qb0 qb1 qb2 qb3 qb4 qb5 qb6
          go_wp2_with fail
          refine wp_region_quiet_all (fun w' => ∃ x : Lower _, w' = x.val) (by kernel_rfl) (by kernel_rfl) ⟨⟨_, (Below.refl _ _).drew⟩, rfl⟩ ?_
          repeat (go_big_quiet_step (first | (go_at_call 63; exact SH.out _) | (go_at_call 35; exact SK.out _)))
          refine wpQuiet_nil ?_
          intro w2 hx2
          obtain ⟨x2, hx2⟩ := hx2
          have hb2 := x2.prop
          rw [← hx2] at hb2
          clear hx2 x2
          obtain ⟨hc2, hf2⟩ := bcell hb2
          have hs2 := hb2.size
          try simp at hs2
          try have hz20 : w.heap.size < w2.heap.size := by omega
          try have hz21 : w.heap.size + 1 < w2.heap.size := by omega
          try have hz22 : w.heap.size + 1 + 1 < w2.heap.size := by omega
          try have hz23 : w.heap.size + 1 + 1 + 1 < w2.heap.size := by omega
          try have hz24 : w.heap.size + 1 + 1 + 1 + 1 < w2.heap.size := by omega
          try have hz25 : w.heap.size + 1 + 1 + 1 + 1 + 1 < w2.heap.size := by omega
          try have hy1_2 : w1.heap.size < w2.heap.size := by omega
          go_wp2_with fail
          go_roundw
          case rel => exact ⟨k + 1, by go_num, by omega, HT.out, hbw.trans (hb2.mono hbw.size)⟩
          case measure => simp [intOf]; omega
        · have HN := Lib.hid (HB.out.symm.trans (dec_neg fun e2 => hks (by
            rw [e2, e'] at e
            exact ((Fo.cons.inj e).2.1).symm)))
          rw [dec_neg hks] at SK
          clear e e' htk hks
          clear hrow hrow' ha hb hlk hlk' qa0 qa1 qa2 qa3 qa4 qa5 qa6 qb0 qb1 qb2 qb3 qb4 qb5 qb6
          go_wp2_with fail
          refine wp_region_quiet_all (fun w' => ∃ x : Lower _, w' = x.val) (by kernel_rfl) (by kernel_rfl) ⟨⟨_, (Below.refl _ _).drew⟩, rfl⟩ ?_
          repeat (go_big_quiet_step (first | (go_at_call 63; exact SH.out _) | (go_at_call 35; exact SK.out _)))
          refine wpQuiet_nil ?_
          intro w2 hx2
          obtain ⟨x2, hx2⟩ := hx2
          have hb2 := x2.prop
          rw [← hx2] at hb2
          clear hx2 x2
          obtain ⟨hc2, hf2⟩ := bcell hb2
          have hs2 := hb2.size
          try simp at hs2
          try have hz20 : w.heap.size < w2.heap.size := by omega
          try have hz21 : w.heap.size + 1 < w2.heap.size := by omega
          try have hz22 : w.heap.size + 1 + 1 < w2.heap.size := by omega
          try have hz23 : w.heap.size + 1 + 1 + 1 < w2.heap.size := by omega
          try have hz24 : w.heap.size + 1 + 1 + 1 + 1 < w2.heap.size := by omega
          try have hz25 : w.heap.size + 1 + 1 + 1 + 1 + 1 < w2.heap.size := by omega
          try have hy1_2 : w1.heap.size < w2.heap.size := by omega
          go_wp2_with fail
          go_ret
          exact ⟨by rw [HN.out] <;> rfl, hbw.trans (hb2.mono hbw.size)⟩
      · have SH := Lib.hid (fun (x : Lower wr) => calls_lower x (sameHead_ne hd hd' aa ca ab cb x.val (attrs_below (attrs_below ha hbw) x.prop) (attrs_below (attrs_below hb hbw) x.prop) hh))
        unfold hdVal at SH
        have HN := Lib.hid (HB.out.symm.trans (dec_neg fun e2 => hh (by
          rw [e2, e'] at e
          exact ((Fo.cons.inj e).1).symm)))
        clear e e' htk hh
        clear hrow hrow' ha hb hlk hlk' qa0 qa1 qa2 qa3 qa4 qa5 qa6 qb0 qb1 qb2 qb3 qb4 qb5 qb6
        go_wp2_with fail
        refine wp_region_quiet_all (fun w' => ∃ x : Lower _, w' = x.val) (by kernel_rfl) (by kernel_rfl) ⟨⟨_, (Below.refl _ _).drew⟩, rfl⟩ ?_
        repeat (go_big_quiet_step ((go_at_call 63; exact SH.out _)))
        refine wpQuiet_nil ?_
        intro w2 hx2
        obtain ⟨x2, hx2⟩ := hx2
        have hb2 := x2.prop
        rw [← hx2] at hb2
        clear hx2 x2
        obtain ⟨hc2, hf2⟩ := bcell hb2
        have hs2 := hb2.size
        try simp at hs2
        try have hz20 : w.heap.size < w2.heap.size := by omega
        try have hz21 : w.heap.size + 1 < w2.heap.size := by omega
        try have hz22 : w.heap.size + 1 + 1 < w2.heap.size := by omega
        try have hz23 : w.heap.size + 1 + 1 + 1 < w2.heap.size := by omega
        try have hz24 : w.heap.size + 1 + 1 + 1 + 1 < w2.heap.size := by omega
        try have hz25 : w.heap.size + 1 + 1 + 1 + 1 + 1 < w2.heap.size := by omega
        try have hy1_2 : w1.heap.size < w2.heap.size := by omega
        go_wp2_with fail
        go_ret
        exact ⟨by rw [HN.out] <;> rfl, hbw.trans (hb2.mono hbw.size)⟩
    · have dk : decide (k < f.len) = false := by simpa using hlt
      have HN := Lib.hid (HB.out.symm.trans (dec_pos (by
        have h1 := take_full f k (by omega)
        have h2 := take_full g k (by have := HLEN.out; omega)
        rw [h1, h2] at htk
        exact htk)))
      clear htk
      go_wp2_with fail
      go_ret
      exact ⟨by rw [HN.out] <;> rfl, hbw⟩
theorem same_any : ∀ (N : Nat) (f g : Fo), f.size ≤ N → ∀ (v u : Value) (w : World), Lies w v f → Lies w u g → Calls Tryz.prog 35 #[v, u] w fun e w' => e = .returned (.bool (dec (f = g))) ∧ Below w.heap.size w w' := by
  intro N
  induction N with
  | zero =>
    intro f g hf v u w hl hg
    by_cases hlen : f.len = g.len
    · exact same_by f g v u w hl hg hlen (fun k h ks hk => by have := Fo.len_le_size f; omega)
    · rw [dec_neg fun e => hlen (by rw [e])]
      exact same_len f g v u w hl hg hlen
  | succ N ih =>
    intro f g hf v u w hl hg
    by_cases hlen : f.len = g.len
    · refine same_by f g v u w hl hg hlen (fun k h ks hk e ks' v u w hl hg => ih ks ks' ?_ v u w hl hg)
      have := Fo.size_app (f.take k) (f.drop k)
      rw [Fo.take_app_drop, e] at this
      simp only [Fo.size] at this
      omega
    · rw [dec_neg fun e => hlen (by rw [e])]
      exact same_len f g v u w hl hg hlen
end Go.Proofs.YtcgedpfolloinaaGreat

namespace Go.Proofs.YtcgedpfolloinaaGreat
open Go.RowKit

def cmpL : List Int → List Int → Int
  | [], [] => 0
  | [], _ :: _ => -1
  | _ :: _, [] => 1
  | a :: s, b :: t => if cmpM a b ≠ 0 then cmpM a b else cmpL s t
theorem cmpL_step {l m : List Int} {k : Nat} (hl : k < l.length) (hm : k < m.length) : cmpL (l.drop k) (m.drop k) = if cmpM (l.getD k 0) (m.getD k 0) ≠ 0 then cmpM (l.getD k 0) (m.getD k 0) else cmpL (l.drop (k + 1)) (m.drop (k + 1)) := by
  rw [List.drop_eq_getElem_cons hl, List.drop_eq_getElem_cons hm, cmpL]
  simp only [List.getD_eq_getElem?_getD, List.getElem?_eq_getElem hl, List.getElem?_eq_getElem hm, Option.getD_some]
theorem cmpL_one {l m : List Int} {k : Nat} (hl : k < l.length) (hm : m.length ≤ k) : cmpL (l.drop k) (m.drop k) = 1 := by
  rw [List.drop_eq_getElem_cons hl, List.drop_of_length_le hm, cmpL]
theorem cmpL_neg {l m : List Int} {k : Nat} (hl : l.length ≤ k) (hm : k < m.length) : cmpL (l.drop k) (m.drop k) = -1 := by
  rw [List.drop_eq_getElem_cons hm, List.drop_of_length_le hl, cmpL]
theorem cmpL_nil {l m : List Int} {k : Nat} (hl : l.length ≤ k) (hm : m.length ≤ k) : cmpL (l.drop k) (m.drop k) = 0 := by
  rw [List.drop_of_length_le hm, List.drop_of_length_le hl, cmpL]

set_option maxRecDepth 100000 in
set_option maxHeartbeats 2000000 in
theorem compareInts_any (l m : List Int) (v u : Value) (w : World) (h1 : IntsLie w v l) (h2 : IntsLie w u m) (hl : l.length ≤ 1000000) (hm : m.length ≤ 1000000) :
    Calls Tryz.prog 101 #[v, u] w fun e w' => e = .returned (.int .i64 (cmpL l m)) ∧ w = w' := by
  obtain ⟨a1, c1, rfl⟩ := ints_form h1
  obtain ⟨a2, c2, rfl⟩ := ints_form h2
  have H1 := Lib.hid h1
  have H2 := Lib.hid h2
  clear h1 h2
  go_enter Tryz.func101, Tryz.ntmps101
  go_wp2_with fail
  go_loop [11] (fun i => ∃ k : Nat, i = .int .i64 k ∧ k ≤ l.length ∧ k ≤ m.length ∧ cmpL l m = cmpL (l.drop k) (m.drop k)) (fun i => l.length - (intOf i).toNat)
  case atStart => exact ⟨0, rfl, Nat.zero_le _, Nat.zero_le _, rfl⟩
  case round =>
    obtain ⟨k, rfl, hk, hk2, he⟩ := hrel
    have HE := Lib.hid he
    clear he
    by_cases hlt : k < l.length
    · by_cases hlt2 : k < m.length
      · have d2 : decide (m.length ≤ k) = false := decide_eq_false (by omega)
        obtain ⟨b, off, cap', hs, hcap, hb, hc⟩ := ints_cells H1.out (by intro e; subst e; simp at hlt)
        simp only [Value.slice.injEq] at hs
        obtain ⟨rfl, -, rfl⟩ := hs
        obtain ⟨b', off', cap'', hs, hcap', hb', hc'⟩ := ints_cells H2.out (by intro e; subst e; simp at hlt2)
        simp only [Value.slice.injEq] at hs
        obtain ⟨rfl, -, rfl⟩ := hs
        have q1 := hc k hlt
        have q2 := hc' k hlt2
        have HS := Lib.hid (HE.out.trans (cmpL_step hlt hlt2))
        clear hc hc'
        generalize l.getD k 0 = x at *
        generalize m.getD k 0 = y at *
        have CM := Lib.hid (compare_any x y w)
        generalize cmpM x y = c at *
        by_cases hx : c = 0
        · have HX := Lib.hid (HS.out.trans (if_neg (by simpa using hx)))
          have b0 : (c != 0) = false := by simpa using hx
          clear hx
          go_wp2_with fail
          refine CM.out.mono ?_; rintro e w' ⟨rfl, rfl⟩
          go_wp2_with fail
          go_round
          case rel => exact ⟨k + 1, by go_num, by omega, by omega, HX.out⟩
          case measure => simp [intOf]; omega
        · have HX := Lib.hid (HS.out.trans (if_pos (by simpa using hx)))
          have b0 : (c != 0) = true := by simpa using hx
          clear hx
          go_wp2_with fail
          refine CM.out.mono ?_; rintro e w' ⟨rfl, rfl⟩
          go_wp2_with fail
          go_ret
          exact ⟨ret_int' HX.out.symm, rfl⟩
      · have d2 : decide (m.length ≤ k) = true := decide_eq_true (by omega)
        have HX := Lib.hid (HE.out.trans (cmpL_one hlt (by omega)))
        obtain ⟨b, off, cap', hs, hcap, hb, hc⟩ := ints_cells H1.out (by intro e; subst e; simp at hlt)
        simp only [Value.slice.injEq] at hs
        obtain ⟨rfl, -, rfl⟩ := hs
        have q1 := hc k hlt
        clear hc
        go_wp2_with fail
        go_ret
        exact ⟨ret_int' HX.out.symm, rfl⟩
    · by_cases hlt2 : k < m.length
      · have HX := Lib.hid (HE.out.trans (cmpL_neg (by omega) hlt2))
        have d2 : decide (l.length < m.length) = true := decide_eq_true (by omega)
        go_wp2_with fail
        go_ret
        exact ⟨ret_int' HX.out.symm, rfl⟩
      · have HX := Lib.hid (HE.out.trans (cmpL_nil (by omega) (by omega)))
        have d2 : decide (l.length < m.length) = false := decide_eq_false (by omega)
        go_wp2_with fail
        go_ret
        exact ⟨ret_int' HX.out.symm, rfl⟩

theorem info_int2 : (Tryz.prog.info? 3).map (fun i => (i.zero, i.size, i.bytes)) = some (some (.int .i64 0), 1, 8) := by kernel_rfl
/-- ints in no block below B. -/
def IntsF (B : Nat) (w : World) (v : Value) (l : List Int) : Prop :=
  (∃ a cap, v = .slice a 0 cap ∧ l = []) ∨ ∃ b off cap, v = .slice (some ⟨b, off, none⟩) l.length cap ∧ l.length ≤ cap ∧ B ≤ b ∧ b < w.heap.size ∧ ∀ k, k < l.length → w.cell? ⟨b, off + k, none⟩ = some (.int .i64 (l.getD k 0))
theorem intsF_lies {B : Nat} {w : World} {v : Value} {l : List Int} (h : IntsF B w v l) : IntsLie w v l := by
  rcases h with h | ⟨b, off, cap, h1, h2, h3, h4, h5⟩
  · exact .inl h
  · exact .inr ⟨b, off, cap, h1, h2, h4, h5⟩
theorem intsF_keeps {B : Nat} {w w' : World} {v : Value} {l : List Int} (h : IntsF B w v l) (k : Keeps B w w') : IntsF B w' v l := by
  rcases h with h | ⟨b, off, cap, h1, h2, h3, h4, h5⟩
  · exact .inl h
  · exact .inr ⟨b, off, cap, h1, h2, h3, Nat.lt_of_lt_of_le h4 k.1, fun i hi => (k.2 _ _ h3 h4).trans (h5 i hi)⟩
theorem intsF_form {B : Nat} {w : World} {v : Value} {l : List Int} (h : IntsF B w v l) : ∃ a cap, v = .slice a l.length cap := ints_form (intsF_lies h)
theorem intsF_owned {W : World} {base : Nat} {v : Value} {l : List Int} (h : W.ownsRow base 3 1 v l.length (l.map (Value.int .i64))) : IntsF base W v l := by
  rcases h.2 with ⟨rfl, h0⟩ | ⟨g, cap, cur, rfl, hb, hg, hn, hcap, hs, ht⟩
  · exact .inl ⟨_, _, rfl, List.eq_nil_of_length_eq_zero h0⟩
  · refine .inr ⟨g, 0, cap, rfl, hn, hb, (Array.getElem?_eq_some_iff.1 hg).1, fun k hk => ?_⟩
    have e1 : (l.map (Value.int .i64))[k]? = some (.int .i64 (l.getD k 0)) := by
      rw [List.getElem?_map, List.getD_eq_getElem?_getD, List.getElem?_eq_getElem hk]; rfl
    rw [← ht, List.getElem?_take, if_pos (by omega), Array.getElem?_toList] at e1
    rw [Nat.zero_add]
    exact cell_of_block hg e1

set_option maxRecDepth 100000 in
set_option maxHeartbeats 1000000 in
theorem cloneInts_any (v : Value) (l : List Int) (w : World) (h : IntsLie w v l) (hl : l.length ≤ 1000000) :
    Calls Tryz.prog 102 #[v] w fun e w' => ∃ v', e = .returned v' ∧ IntsF w.heap.size w' v' l ∧ Below w.heap.size w w' := by
  obtain ⟨i0, hi, hz0, hz1, hz2⟩ := info_parts info_int2
  obtain ⟨a, cap, rfl⟩ := ints_form h
  have H := Lib.hid h
  clear h
  cases a with
  | none =>
    have hl0 : l = [] := by
      rcases H.out with ⟨_, _, h1, h2⟩ | ⟨b, off, cap', h1, _⟩
      · exact h2
      · simp at h1
    subst hl0
    have hnil := fun (w : World) => Lib.run_eql_slice_nil (P := Tryz.prog) w 41 3 none 0 cap 0 0 Tryz.underlying41
    simp only [List.length_nil]
    go_enter Tryz.func102, Tryz.ntmps102
    go_wp2_with fail
    go_ret
    exact ⟨_, rfl, .inl ⟨_, _, rfl, rfl⟩, by ((repeat' (first | exact Below.refl _ _ | assumption | refine Below.setCell ?_ ?_ _ | refine bdrewN ?_ _ | refine Below.drew ?_ | refine Below.alloc ?_ ?_ _ | refine bbehind ?_ (by assumption) ?_)); all_goals first | (simp; done) | (simp; omega) | omega)⟩
  | some ad =>
    have hnil := fun (w : World) => Lib.run_eql_slice_nil (P := Tryz.prog) w 41 3 (some ad) l.length cap 0 0 Tryz.underlying41
    have hnews : ∀ j u, (l.map (Value.int .i64))[j]? = some u → (w.alloc (.cells #[] 3)).cell? (ad.add j) = some u := by
      intro j u hj
      have hjl : j < l.length := by have := (List.getElem?_eq_some_iff.1 hj).1; simpa using this
      obtain ⟨b, off, cap', hs, _, hb, hc⟩ := ints_cells H.out (by intro e; subst e; simp at hjl)
      simp only [Value.slice.injEq, Option.some.injEq] at hs
      obtain ⟨rfl, -, -⟩ := hs
      rw [World.cell?_of_block (w := w) (Below.heap_alloc _ _ _ (by rw [Go.WideShapes.add_plain]; exact hb)), Go.WideShapes.add_plain, hc j hjl, ← hj]
      rw [List.getElem?_map, List.getD_eq_getElem?_getD, List.getElem?_eq_getElem hjl]; rfl
    have hown0 : (w.alloc (.cells #[] 3)).ownsRow w.heap.size 3 1 (.slice (some ⟨w.heap.size, 0, none⟩) 0 0) 0 [] := World.ownsRow_lit w #[] 0 (Nat.le_refl _) (by decide) rfl
    have HN := Lib.hid hnews
    clear hnews
    go_enter Tryz.func102, Tryz.ntmps102
    go_wp2_with (at_builtin; refine wpList_append_own _ rfl _ _ 41 rfl w.heap.size 3 i0 (.int .i64 0) 1 8 Tryz.underlying41 hi hz0 hz1 hz2 rfl (by decide) _ _ _ rfl hown0 ad l.length cap (l.map (Value.int .i64)) rfl (by simp) HN.out ?c1 ?c2 ?c3 ?c4 ?stop)
    case c1 =>
      intro u hu
      obtain ⟨q, _, rfl⟩ := List.mem_map.1 hu
      rfl
    case c2 => unfold maxLen; omega
    case c3 => omega
    case c4 => simp
    case stop =>
      intro v' w2 hown hgrow _
      have HO := Lib.hid hown
      have HB := Lib.hid ((((Below.refl w.heap.size w).alloc (Nat.le_refl _) _)).grown hgrow (by simp) (fun k hk => by simp [Value.ownBlock] at hk; omega))
      clear hown hgrow
      go_wp2_with fail
      go_ret
      exact ⟨v', rfl, intsF_owned (by simpa using HO.out), HB.out⟩
end Go.Proofs.YtcgedpfolloinaaGreat

namespace Go.Proofs.YtcgedpfolloinaaGreat
open Go.RowKit Go.Shelf

def nextV (vs : List Vis) (p : List Int) : Option (List Int) := (vs.find? (fun x => decide (0 < cmpL (pathInts x.p) p))).map (fun x => pathInts x.p)
def nextF (f : Fo) (p : List Int) : List Int × Bool × Int :=
  if foErr f ≠ 0 then ([], false, foErr f) else if (placeF f p).isSome = false ∧ p ≠ [] then ([], false, 6) else match nextV (seqAt [] 0 f) p with
    | none => ([], false, 0)
    | some q => (q, true, 0)
def NextRes (w : World) (r : List Int × Bool × Int) (e : Ending) (w' : World) : Prop :=
  ∃ a cap, e = .returned (.tuple #[.slice a r.1.length cap, .bool r.2.1, .int .i64 r.2.2]) ∧ IntsF w.heap.size w' (.slice a r.1.length cap) r.1 ∧ Below w.heap.size w w'

/-- the four cells of its own that Next begins with. -/
structure NC (w W : World) (pv a b c : Value) : Prop where
  c0 : W.cell? ⟨w.heap.size, 0, none⟩ = some pv
  c1 : W.cell? ⟨w.heap.size + 1, 0, none⟩ = some a
  f1 : W.frozen? ⟨w.heap.size + 1, 0, none⟩ = false
  c2 : W.cell? ⟨w.heap.size + 1 + 1, 0, none⟩ = some b
  f2 : W.frozen? ⟨w.heap.size + 1 + 1, 0, none⟩ = false
  c3 : W.cell? ⟨w.heap.size + 1 + 1 + 1, 0, none⟩ = some c
  f3 : W.frozen? ⟨w.heap.size + 1 + 1 + 1, 0, none⟩ = false
  size : w.heap.size + 4 ≤ W.heap.size
  bel : Below w.heap.size w W
theorem NC.start (w : World) (pv : Value) : NC w ((((w.alloc (.cells #[pv] 41)).alloc (.cells #[.slice none 0 0] 41)).alloc (.cells #[.bool false] 4)).alloc (.cells #[.int .i64 0] 32)) pv (.slice none 0 0) (.bool false) (.int .i64 0) := by
  refine ⟨?_, ?_, ?_, ?_, ?_, ?_, ?_, by simp, ((((Below.refl _ w).alloc (Nat.le_refl _) _).alloc (by simp) _).alloc (by simp; omega) _).alloc (by simp; omega) _⟩ <;> simp [go_sem]
theorem NC.same {w W W' : World} {pv a b c : Value} (h : NC w W pv a b c) (hb : ∀ k, w.heap.size ≤ k → k < w.heap.size + 4 → W'.heap[k]? = W.heap[k]?) (hz : W.heap.size ≤ W'.heap.size) (hB : Below w.heap.size w W') : NC w W' pv a b c := by
  obtain ⟨c0, c1, f1, c2, f2, c3, f3, size, bel⟩ := h
  have b0 := hb w.heap.size (by omega) (by omega)
  have b1 := hb (w.heap.size + 1) (by omega) (by omega)
  have b2 := hb (w.heap.size + 1 + 1) (by omega) (by omega)
  have b3 := hb (w.heap.size + 1 + 1 + 1) (by omega) (by omega)
  exact ⟨(World.cell?_of_block (w := W) b0).trans c0, (World.cell?_of_block (w := W) b1).trans c1, (World.frozen?_of_block (w := W) b1).trans f1, (World.cell?_of_block (w := W) b2).trans c2, (World.frozen?_of_block (w := W) b2).trans f2,
    (World.cell?_of_block (w := W) b3).trans c3, (World.frozen?_of_block (w := W) b3).trans f3, Nat.le_trans size hz, hB⟩
theorem NC.below {w W W' : World} {pv a b c : Value} (h : NC w W pv a b c) (k : Below W.heap.size W W') : NC w W' pv a b c :=
  h.same (fun i _ hi => k.block i (by have := h.size; omega)) k.size (h.bel.trans (k.mono (by have := h.size; omega)))
theorem NC.set3 {w W : World} {pv a b c : Value} (h : NC w W pv a b c) (a' b' c' : Value) : NC w (((W.setCell ⟨w.heap.size + 1, 0, none⟩ a').setCell ⟨w.heap.size + 1 + 1, 0, none⟩ b').setCell ⟨w.heap.size + 1 + 1 + 1, 0, none⟩ c') pv a' b' c' := by
  obtain ⟨c0, c1, f1, c2, f2, c3, f3, size, bel⟩ := h
  refine ⟨?_, ?_, ?_, ?_, ?_, ?_, ?_, by simpa [World.setCell] using size, ((bel.setCell (p := ⟨w.heap.size + 1, 0, none⟩) (by show w.heap.size ≤ w.heap.size + 1; omega) _).setCell (p := ⟨w.heap.size + 1 + 1, 0, none⟩) (by show w.heap.size ≤ w.heap.size + 1 + 1; omega) _).setCell (p := ⟨w.heap.size + 1 + 1 + 1, 0, none⟩) (by show w.heap.size ≤ w.heap.size + 1 + 1 + 1; omega) _⟩ <;> simp (maxDischargeDepth := 8) [go_sem, *]

set_option maxRecDepth 100000 in
set_option maxHeartbeats 2000000 in
theorem next_err (f : Fo) (p : List Int) (v pv : Value) (w : World) (hl : Lies w v f) (hs : Small f) (hp : IntsLie w pv p) (he : foErr f ≠ 0) :
    Calls Tryz.prog 38 #[v, pv] w (NextRes w (nextF f p)) := by
  have CH := Lib.hid (fun w1 (hw : Below w.heap.size w w1) => tcheck_any f v w1 (lies_below hl hw) hs)
  obtain ⟨a, cap, rfl⟩ := lies_form hl
  obtain ⟨pa, pc, rfl⟩ := ints_form hp
  have HR := Lib.hid (show nextF f p = ([], false, foErr f) from if_pos he)
  clear hl hs hp
  generalize foErr f = er at *
  have b0 : (er != 0) = true := by simpa using he
  clear he
  have N0 := NC.start w (.slice pa p.length pc)
  go_enter Tryz.func38, Tryz.ntmps38
  go_wp2_with fail
  generalize (((w.alloc (.cells #[.slice pa p.length pc] 41)).alloc (.cells #[.slice none 0 0] 41)).alloc (.cells #[.bool false] 4)).alloc (.cells #[.int .i64 0] 32) = W0 at *
  refine (CH.out W0 N0.bel).mono ?_
  rintro e w1 ⟨rfl, hb1⟩
  have N1 := Lib.hid (N0.below hb1)
  clear N0 hb1
  obtain ⟨c0, c1, f1, c2, f2, c3, f3, size, bel⟩ := N1.out
  go_wp2_with fail
  have N2 := N1.out.set3 (.slice none 0 0) (.bool false) (.int .i64 er)
  clear c0 c1 f1 c2 f2 c3 f3 size bel
  generalize ((w1.setCell ⟨w.heap.size + 1, 0, none⟩ (.slice none 0 0)).setCell ⟨w.heap.size + 1 + 1, 0, none⟩ (.bool false)).setCell ⟨w.heap.size + 1 + 1 + 1, 0, none⟩ (.int .i64 er) = Wf at N2 ⊢
  obtain ⟨c0, c1, f1, c2, f2, c3, f3, size, bel⟩ := N2
  refine bodyPost_ret (v := .tuple #[.slice none 0 0, .bool false, .int .i64 er]) (by simp [results, Tryz.results38, go_sem, c1, c2, c3]) rfl ?_
  rw [HR.out]
  exact ⟨none, 0, rfl, .inl ⟨_, _, rfl, rfl⟩, bel⟩

set_option maxRecDepth 100000 in
set_option maxHeartbeats 2000000 in
theorem next_absent (f : Fo) (p : List Int) (v pv : Value) (w : World) (hl : Lies w v f) (hs : Small f) (hp : IntsLie w pv p) (hpl : p.length ≤ 1000000) (he : foErr f = 0) (hab : (placeF f p).isSome = false) (hp0 : p ≠ []) :
    Calls Tryz.prog 38 #[v, pv] w (NextRes w (nextF f p)) := by
  have CH := Lib.hid (fun w1 (hw : Below w.heap.size w w1) => tcheck_any f v w1 (lies_below hl hw) hs)
  have TA := Lib.hid (fun w1 (hw : Below w.heap.size w w1) => treeAt_any f p v pv w1 (lies_below hl hw) (ints_below hp hw) hpl)
  obtain ⟨a, cap, rfl⟩ := lies_form hl
  obtain ⟨pa, pc, rfl⟩ := ints_form hp
  have HR := Lib.hid (show nextF f p = ([], false, 6) from (if_neg (by simpa using he)).trans (if_pos ⟨hab, hp0⟩))
  have hpos : decide ((0 : Int) < (p.length : Int)) = true := decide_eq_true (by have := List.length_pos_iff.2 hp0; omega)
  have hpos2 : decide (0 < p.length) = true := decide_eq_true (List.length_pos_iff.2 hp0)
  rw [he] at CH
  have HAB := Lib.hid hab
  clear hl hs hp he hab hp0
  have N0 := NC.start w (.slice pa p.length pc)
  go_enter Tryz.func38, Tryz.ntmps38
  go_wp2_with fail
  generalize (((w.alloc (.cells #[.slice pa p.length pc] 41)).alloc (.cells #[.slice none 0 0] 41)).alloc (.cells #[.bool false] 4)).alloc (.cells #[.int .i64 0] 32) = W0 at *
  refine (CH.out W0 N0.bel).mono ?_
  rintro e w1 ⟨rfl, hb1⟩
  have N1 := Lib.hid (N0.below hb1)
  clear N0 hb1
  obtain ⟨c0, c1, f1, c2, f2, c3, f3, size, bel⟩ := N1.out
  go_wp2_with fail
  refine (TA.out w1 bel).mono ?_
  rintro e w2 ⟨h, ks, aa, ca, ak, ck, rfl, -, -, -, hb2⟩
  rw [HAB.out]
  unfold aggOf
  have N2 := Lib.hid (N1.out.below hb2)
  clear c0 c1 f1 c2 f2 c3 f3 size bel hb2
  obtain ⟨c0, c1, f1, c2, f2, c3, f3, size, bel⟩ := N2.out
  have z0 : w.heap.size < w2.heap.size := by omega
  have z1 : w.heap.size + 1 < w2.heap.size := by omega
  have z2 : w.heap.size + 1 + 1 < w2.heap.size := by omega
  have z3 : w.heap.size + 1 + 1 + 1 < w2.heap.size := by omega
  go_wp2_with fail
  have N3 := (N2.out.set3 (.slice none 0 0) (.bool false) (.int .i64 6)).below ((Below.refl _ _).alloc (Nat.le_refl _) (.cells #[.int .i64 h.k, .string ⟨h.l.toArray⟩, .slice aa h.ats.length ca, .int .i64 h.n, .int .i64 h.d, .string ⟨h.x.toArray⟩, .slice ak ks.len ck] 43))
  clear c0 c1 f1 c2 f2 c3 f3 size bel z0 z1 z2 z3
  generalize (((w2.setCell ⟨w.heap.size + 1, 0, none⟩ (.slice none 0 0)).setCell ⟨w.heap.size + 1 + 1, 0, none⟩ (.bool false)).setCell ⟨w.heap.size + 1 + 1 + 1, 0, none⟩ (.int .i64 6)).alloc (.cells #[.int .i64 h.k, .string ⟨h.l.toArray⟩, .slice aa h.ats.length ca, .int .i64 h.n, .int .i64 h.d, .string ⟨h.x.toArray⟩, .slice ak ks.len ck] 43) = Wf at N3 ⊢
  obtain ⟨c0, c1, f1, c2, f2, c3, f3, size, bel⟩ := N3
  refine bodyPost_ret (v := .tuple #[.slice none 0 0, .bool false, .int .i64 6]) (by simp [results, Tryz.results38, go_sem, c1, c2, c3]) rfl ?_
  rw [HR.out]
  exact ⟨none, 0, rfl, .inl ⟨_, _, rfl, rfl⟩, bel⟩

/-- what the search holds behind so many trees. -/
structure NxI (w : World) (R : Nat) (p : List Int) (pv : Value) (pre : List Vis) (G : Nat → Prop) (W : World) : Prop where
  g : ∀ k, G k ↔ k < R
  nc : NC w W pv (.slice none 0 0) (.bool false) (.int .i64 0)
  no : nextV pre p = none
  size : R ≤ W.heap.size
structure NxX (w : World) (R : Nat) (p : List Int) (pv : Value) (pre : List Vis) (W : World) : Prop where
  it : ∃ q a cap, nextV pre p = some q ∧ NC w W pv (.slice a q.length cap) (.bool true) (.int .i64 0) ∧ IntsF (w.heap.size + 4) W (.slice a q.length cap) q
  size : R ≤ W.heap.size
theorem NxI.spared {w W W' : World} {R : Nat} {p : List Int} {pv : Value} {pre : List Vis} {G : Nat → Prop} (h : NxI w R p pv pre G W) (sp : Spared G W W') (hR : w.heap.size + 4 ≤ R) : NxI w R p pv pre G W' := by
  obtain ⟨g, nc, no, size⟩ := h
  refine ⟨g, nc.same (fun k _ hk => sp.block k ((g k).2 (by omega))) sp.size (nc.bel.trans ⟨sp.os, sp.tape, sp.output, sp.size, fun k hk => sp.block k ((g k).2 (by omega))⟩), no, Nat.le_trans size sp.size⟩
theorem nextV_snoc {pre : List Vis} {x : Vis} {p : List Int} (h : nextV pre p = none) : nextV (pre ++ [x]) p = if 0 < cmpL (pathInts x.p) p then some (pathInts x.p) else none := by
  unfold nextV at h ⊢
  rw [Option.map_eq_none_iff] at h
  rw [List.find?_append, h]
  by_cases hc : 0 < cmpL (pathInts x.p) p <;> simp [hc]
theorem nextV_pre {pre xs : List Vis} {p : List Int} {q : List Int} (hp : pre <+: xs) (h : nextV pre p = some q) : nextV xs p = some q := by
  obtain ⟨t, rfl⟩ := hp
  unfold nextV at h ⊢
  rw [List.find?_append]
  cases hf : pre.find? (fun x => decide (0 < cmpL (pathInts x.p) p)) with
  | none => rw [hf] at h; cases h
  | some y => rw [hf] at h; simpa using h
theorem intsF_putObj {B : Nat} {W : World} {l : Nat} {o o' : Obj} {v : Value} {xs : List Int} (hl : W.heap[l]? = some o) (ho : o.isCells = false) (h : IntsF B W v xs) : IntsF B (W.putObj l o') v xs := by
  rcases h with h | ⟨b, off, cap, h1, h0, hB, h2, h3⟩
  · exact .inl h
  · refine .inr ⟨b, off, cap, h1, h0, hB, by simpa using h2, fun k hk => ?_⟩
    have hb : b ≠ l := by
      rintro rfl
      have := h3 k hk
      simp only [World.cell?, hl] at this
      cases o <;> simp [Obj.isCells] at ho this
    rw [World.cell?_of_block (w := W) (World.putObj_heap_other hb)]
    exact h3 k hk
theorem intsF_of {W : World} {v : Value} {xs : List Int} (h : IntsLie W v xs) : IntsF 0 W v xs := by
  rcases h with h | ⟨b, off, cap, h1, h2, h4, h5⟩
  · exact .inl h
  · exact .inr ⟨b, off, cap, h1, h2, Nat.zero_le _, h4, h5⟩
theorem intsF_mono {B B' : Nat} (hB : B' ≤ B) {W : World} {v : Value} {xs : List Int} (h : IntsF B W v xs) : IntsF B' W v xs := by
  rcases h with h | ⟨b, off, cap, h1, h2, h3, h4, h5⟩
  · exact .inl h
  · exact .inr ⟨b, off, cap, h1, h2, Nat.le_trans hB h3, h4, h5⟩
theorem path_len : ∀ {f : Fo} {pre : List Nat} {i : Nat} {x : Vis}, x ∈ seqAt pre i f → x.p.length ≤ pre.length + f.size
  | .nil, _, _, _, h => by simp [seqAt] at h
  | .cons h ks r, pre, i, x, hx => by
    simp only [seqAt, List.mem_cons, List.mem_append] at hx
    rcases hx with rfl | hx | hx
    · simp [Fo.size]
    · have := path_len hx
      simp [Fo.size] at this ⊢; omega
    · have := path_len hx
      simp [Fo.size] at this ⊢; omega
end Go.Proofs.YtcgedpfolloinaaGreat

namespace Go.Proofs.YtcgedpfolloinaaGreat
open Go.RowKit Go.Shelf
attribute [local go_sem] Oper.semAt_some

set_option maxRecDepth 100000 in
set_option maxHeartbeats 4000000 in
theorem next_in (f : Fo) (p : List Int) (v pv : Value) (w : World) (hl : Lies w v f) (hs : Small f) (hp : IntsLie w pv p) (hpl : p.length ≤ 1000000) (he : foErr f = 0) (hgo : ((placeF f p).isSome = true) ∨ p = []) :
    CallsIn Fence.wide 4 Tryz.prog 38 #[v, pv] w (NextRes w (nextF f p)) := by
  have hsz := hs.size
  have CH := Lib.hid (fun w1 (hw : Below w.heap.size w w1) => tcheck_any f v w1 (lies_below hl hw) hs)
  have TA := Lib.hid (fun w1 (hw : Below w.heap.size w w1) => treeAt_any f p v pv w1 (lies_below hl hw) (ints_below hp hw) hpl)
  have HL := Lib.hid hl
  have HP := Lib.hid hp
  obtain ⟨a, cap, rfl⟩ := lies_form hl
  obtain ⟨pa, pc, rfl⟩ := ints_form hp
  have HR := Lib.hid (show nextF f p = match nextV (seqAt [] 0 f) p with | none => ([], false, 0) | some q => (q, true, 0) from (if_neg (by simpa using he)).trans (if_neg (fun h => hgo.elim (fun h2 => by rw [h.1] at h2; cases h2) (fun h2 => h.2 h2))))
  rw [he] at CH
  clear hl hs hp he
  have N0 := NC.start w (.slice pa p.length pc)
  refine callsIn_of_wp_marks Tryz.func38 rfl trivial ?_ rfl
  simp only [Tryz.ntmps38, List.size_toArray, List.length_cons, List.length_nil, Nat.reduceAdd, Nat.reduceSub, Array.replicate_succ, Array.replicate_zero, List.push_toArray, List.append_toArray, List.nil_append, List.cons_append]
  gi_wp2_with fail
  generalize (((w.alloc (.cells #[.slice pa p.length pc] 41)).alloc (.cells #[.slice none 0 0] 41)).alloc (.cells #[.bool false] 4)).alloc (.cells #[.int .i64 0] 32) = W0 at *
  refine ⟨trivial, (callsIn_wide.2 (CH.out W0 N0.bel)).mono ?_⟩
  rintro e w1 ⟨rfl, hb1⟩
  have N1 := Lib.hid (N0.below hb1)
  clear N0 hb1
  obtain ⟨c0, c1, f1, c2, f2, c3, f3, size, bel⟩ := N1.out
  gi_wp2_with fail
  refine ⟨trivial, (callsIn_wide.2 (TA.out w1 bel)).mono ?_⟩
  rintro e w2 ⟨h, ks, aa, ca, ak, ck, rfl, -, -, -, hb2⟩
  unfold aggOf
  have N2 := Lib.hid (N1.out.below hb2)
  clear c0 c1 f1 c2 f2 c3 f3 size bel hb2
  obtain ⟨c0, c1, f1, c2, f2, c3, f3, size, bel⟩ := N2.out
  have z0 : w.heap.size < w2.heap.size := by omega
  have z1 : w.heap.size + 1 < w2.heap.size := by omega
  have z2 : w.heap.size + 1 + 1 < w2.heap.size := by omega
  have z3 : w.heap.size + 1 + 1 + 1 < w2.heap.size := by omega
  generalize hbs : (placeF f p).isSome = bs at *
  cases bs with
  | true =>
    gi_wp2_with (refine ⟨trivial, ?_⟩; gi_at_call 79; refine (trees_in _ _ _ _ _).mono ?_; rintro e w' ⟨rfl, rfl⟩)
    obtain ⟨W0, hW0⟩ : ∃ W0, (w2.alloc (.cells #[.int .i64 h.k, .string ⟨h.l.toArray⟩, .slice aa h.ats.length ca, .int .i64 h.n, .int .i64 h.d, .string ⟨h.x.toArray⟩, .slice ak ks.len ck] 43)).alloc (.cells #[.slice a f.len cap] 28) = W0 := ⟨_, rfl⟩
    have hz0 : W0.heap.size = w2.heap.size + 1 + 1 := by rw [← hW0]; simp
    have hx0 : Below w2.heap.size w2 W0 := by rw [← hW0]; exact ((Below.refl _ _).alloc (Nat.le_refl _) _).alloc (by simp) _
    have hN0 : NxI w (w2.heap.size + 1 + 1) p (.slice pa p.length pc) [] (fun k => k < w2.heap.size + 1 + 1) W0 := ⟨fun _ => Iff.rfl, N2.out.below hx0, rfl, by omega⟩
    have hB0 := hN0.nc.bel
    have hc0 : W0.cell? ⟨w2.heap.size + 1, 0, none⟩ = some (.slice a f.len cap) := by rw [← hW0]; simp [go_sem]
    rw [hW0]
    clear hW0 hx0 c0 c1 f1 c2 f2 c3 f3 bel z0 z1 z2 z3
    refine range_own (gf := 123) (lb := #[.pointer (some ⟨w2.heap.size + 1, 0, none⟩)]) rfl (enters_of Tryz.func123 (by kernel_rfl) rfl)
      (trees_seq f (.slice a f.len cap) w (w2.heap.size + 1) HL.out (by omega)) (by omega) ?st (fun x args W h => by obtain ⟨_, _, rfl, _⟩ := h; rfl)
      (NxI w (w2.heap.size + 1 + 1) p (.slice pa p.length pc)) (fun c pre W => c = .ret ∧ NxX w (w2.heap.size + 1 + 1) p (.slice pa p.length pc) pre W) (fun k => k < w2.heap.size + 1 + 1) ?hI ?hIs ?hIx (fun k hk => by omega) hN0
      (fun x a' W => ∃ (b0 : Option Addr) (c0 : Nat) (pv' tv : Value) (u0 u1 u2 u7 u8 u9 u11 u12 u13 u14 u15 u16 u17 u18 u19 u20 u21 u22 u23 u24 u25 u26 u27 u28 u29 u30 : Value), x ∈ seqAt [] 0 f ∧ IntsF 0 W (.slice b0 x.p.length c0) (pathInts x.p) ∧ a' = { tmps := #[u0, u1, u2, .pointer (some ⟨w.heap.size, 0, none⟩), .pointer (some ⟨w.heap.size + 1, 0, none⟩), .pointer (some ⟨w.heap.size + 1 + 1, 0, none⟩), .pointer (some ⟨w.heap.size + 1 + 1 + 1, 0, none⟩), u7, u8, u9, .slice b0 x.p.length c0, u11, u12, u13, u14, u15, u16, u17, u18, u19, u20, u21, u22, u23, u24, u25, u26, u27, u28, u29, u30, pv', tv, undef, undef, undef, undef, undef, undef], defers := [] })
      (fun x a' W l o o' hl ho h => by
        obtain ⟨b0, c0, pv', tv, u0, u1, u2, u7, u8, u9, u11, u12, u13, u14, u15, u16, u17, u18, u19, u20, u21, u22, u23, u24, u25, u26, u27, u28, u29, u30, h1, h2, h3⟩ := h
        exact ⟨b0, c0, pv', tv, u0, u1, u2, u7, u8, u9, u11, u12, u13, u14, u15, u16, u17, u18, u19, u20, u21, u22, u23, u24, u25, u26, u27, u28, u29, u30, h1, intsF_putObj hl ho h2, h3⟩) ?assign ?body ?done ?stop
    case st =>
      intro o
      refine ⟨hB0.trans ((((Below.refl _ W0).alloc (Nat.le_refl _) _).alloc (by simp) _).mono hB0.size), ?_⟩
      simp [go_sem, hz0, hc0]
    case hI => exact fun s G W W' h sp => h.spared sp (by omega)
    case hIs =>
      rintro s G W ⟨g, nc, no, size⟩ k hk
      have := (g k).1 hk; omega
    case hIx =>
      rintro c s W l o o' hl ho hc ⟨rfl, ⟨q, a, cap, hq, nc, hi⟩, size⟩
      exact ⟨rfl, ⟨q, a, cap, hq, nc.same (fun k _ hk => World.putObj_heap_other (by omega)) (by simp) (nc.bel.trans ⟨rfl, rfl, rfl, by simp, fun k hk => World.putObj_heap_other (by omega)⟩), intsF_putObj ho hc hi⟩, by simpa using size⟩
    case assign =>
      rintro n' l pre x args G W K hI ⟨pv', tv, rfl, hp, ht, hx⟩ hz hK
      obtain ⟨b0, c0, rfl⟩ := ints_form hp
      have hp2 := intsF_of hp
      simp only [List.length_map] at hp2 ⊢
      clear hp
      gi_wp2
      exact hK _ _ (But.refl _ _) (Below.refl _ _) hI ⟨b0, c0, _, tv, _, _, _, _, _, _, _, _, _, _, _, _, _, _, _, _, _, _, _, _, _, _, _, _, _, _, hx, hp2, rfl⟩
    case body =>
      rintro n' l pre x a' G W ⟨g, nc, no, size⟩ ⟨b0, c0, pv', tv, u0, u1, u2, u7, u8, u9, u11, u12, u13, u14, u15, u16, u17, u18, u19, u20, u21, u22, u23, u24, u25, u26, u27, u28, u29, u30, hx, hpi, rfl⟩ hz
      have hG1 : G (w.heap.size + 1) := (g _).2 (by omega)
      have hG2 : G (w.heap.size + 1 + 1) := (g _).2 (by omega)
      have hG3 : G (w.heap.size + 1 + 1 + 1) := (g _).2 (by omega)
      have HG := Lib.hid g
      have hpl2 := path_len hx
      have hxl : (pathInts x.p).length ≤ 1000000 := by simp at hpl2 ⊢; omega
      have CM := Lib.hid (compareInts_any (pathInts x.p) p _ _ W (intsF_lies hpi) (ints_below HP.out nc.bel) hxl hpl)
      have CL := Lib.hid (cloneInts_any _ (pathInts x.p) W (intsF_lies hpi) hxl)
      have HNV := Lib.hid (nextV_snoc (x := x) no)
      have NCC := Lib.hid nc
      have HXL := Lib.hid (show (pathInts x.p).length = x.p.length by simp)
      clear g no hx hpl2 hxl
      obtain ⟨c0', c1, f1, c2, f2, c3, f3, size', bel⟩ := nc
      gi_wp2_with fail
      refine ⟨trivial, fun h => (by cases h), (CallsIn.inRound l (callsIn_wide.2 CM.out)).mono ?_⟩
      rintro e w3 ⟨rfl, rfl⟩
      generalize cmpL (pathInts x.p) p = c at *
      by_cases hc : 0 < c
      · have dc : decide (0 < c) = true := by simpa using hc
        have HNX := Lib.hid (HNV.out.trans (if_pos hc))
        clear hc
        gi_wp2_with fail
        refine ⟨trivial, fun h => (by cases h), (CallsIn.inRound l (callsIn_wide.2 CL.out)).mono ?_⟩
        rintro e w4 ⟨v4, rfl, hi4, hb4⟩
        obtain ⟨a4, cap4, rfl⟩ := intsF_form hi4
        have N4 := Lib.hid (NCC.out.below hb4)
        have hs4 := hb4.size
        have HB4 := Lib.hid hb4
        have HI4 := Lib.hid hi4
        clear c0' c1 f1 c2 f2 c3 f3 size' bel hb4 hi4
        obtain ⟨c0', c1, f1, c2, f2, c3, f3, size', bel⟩ := N4.out
        gi_wp2_with fail
        have N5 := N4.out.set3 (.slice a4 x.p.length cap4) (.bool true) (.int .i64 0)
        have hkp := ((Keeps.setCell (B := w.heap.size + 4) w4 (b := w.heap.size + 1) (by omega) 0 (.slice a4 x.p.length cap4)).trans (Keeps.setCell _ (b := w.heap.size + 1 + 1) (by omega) 0 (.bool true))).trans (Keeps.setCell _ (b := w.heap.size + 1 + 1 + 1) (by omega) 0 (.int .i64 0))
        have hi5 := intsF_keeps (intsF_mono (B' := w.heap.size + 4) (by have := NCC.out.size; omega) HI4.out) hkp
        have hz5 := hkp.1
        exact ⟨(((But.of_below HB4.out).trans (But.setCell _ hG1 _)).trans (But.setCell _ hG2 _)).trans (But.setCell _ hG3 _), rfl, ⟨pathInts x.p, a4, cap4, HNX.out, by rw [HXL.out]; exact N5, hi5⟩, by omega⟩
      · have dc : decide (0 < c) = false := by simpa using hc
        have HNX := Lib.hid (HNV.out.trans (if_neg hc))
        clear hc
        gi_wp2_with fail
        exact ⟨But.refl _ _, Below.refl _ _, G, fun k hk => .inl hk, HG.out, NCC.out, HNX.out, size⟩
    case done =>
      rintro D ys G W hD rfl ⟨g, nc, no, size⟩ hK
      have NCC := Lib.hid nc
      obtain ⟨c0, c1, f1, c2, f2, c3, f3, size', bel⟩ := nc
      gi_wp2
      have HN := Lib.hid (show nextF f p = ([], false, 0) by rw [HR.out, no])
      clear c0 c1 f1 c2 f2 c3 f3 bel
      have hK2 : (((W.setCell ⟨w.heap.size + 1, 0, none⟩ (.slice none 0 0)).setCell ⟨w.heap.size + 1 + 1, 0, none⟩ (.bool false)).setCell ⟨w.heap.size + 1 + 1 + 1, 0, none⟩ (.int .i64 0)).heap[D]? = some (.deferred (some [])) := (((KeepsOthers.setCell W _ _).trans (KeepsOthers.setCell _ _ _)).trans (KeepsOthers.setCell _ _ _)).same D _ hK rfl
      refine ⟨by simp, .inl ⟨_, _, rfl, run_takeDeferred hK2, ?_⟩⟩
      have hb2 := belowK_b (w := W0) (Nat.le_refl _) _ D _ (.deferred none) (by simpa using hD) hK2 rfl rfl
      have N3 := NCC.out.set3 (.slice none 0 0) (.bool false) (.int .i64 0)
      have N4 := N3.same (fun k _ hk => hb2.block k (by omega)) hb2.size (N3.bel.trans (hb2.mono (by omega)))
      generalize (((W.setCell ⟨w.heap.size + 1, 0, none⟩ (.slice none 0 0)).setCell ⟨w.heap.size + 1 + 1, 0, none⟩ (.bool false)).setCell ⟨w.heap.size + 1 + 1 + 1, 0, none⟩ (.int .i64 0)).putObj D (.deferred none) = Wf at N4 ⊢
      obtain ⟨c0, c1, f1, c2, f2, c3, f3, size', bel⟩ := N4
      refine ⟨.tuple #[.slice none 0 0, .bool false, .int .i64 0], by simp (maxDischargeDepth := 8) [results, go_sem, Tryz.results38, c1, c2, c3], ?_⟩
      rw [HN.out]
      exact ⟨none, 0, rfl, .inl ⟨_, _, rfl, rfl⟩, bel⟩
    case stop =>
      rintro D c pre W hD hp ⟨rfl, ⟨q, aq, capq, hq, nc, hi⟩, size⟩ hK
      have HN := Lib.hid (show nextF f p = (q, true, 0) by rw [HR.out, nextV_pre hp hq])
      gi_wp2
      refine ⟨by simp, .inl ⟨_, _, rfl, run_takeDeferred hK, ?_⟩⟩
      have hb2 := belowK_b (w := W0) (Nat.le_refl _) _ D _ (.deferred none) (by simpa using hD) hK rfl rfl
      have N4 := nc.same (fun k _ hk => hb2.block k (by omega)) hb2.size (nc.bel.trans (hb2.mono (by omega)))
      have hi4 := intsF_putObj (o' := .deferred none) hK rfl hi
      generalize W.putObj D (.deferred none) = Wf at N4 hi4 ⊢
      obtain ⟨c0, c1, f1, c2, f2, c3, f3, size', bel⟩ := N4
      refine ⟨.tuple #[.slice aq q.length capq, .bool true, .int .i64 0], by simp (maxDischargeDepth := 8) [results, go_sem, Tryz.results38, c1, c2, c3], ?_⟩
      rw [HN.out]
      exact ⟨aq, capq, rfl, intsF_mono (by omega) hi4, bel⟩
  | false =>
    have hp0 : p = [] := hgo.resolve_left (by decide)
    have hpd : decide ((0 : Int) < (p.length : Int)) = false := decide_eq_false (by rw [hp0]; simp)
    have hpd2 : decide (0 < p.length) = false := decide_eq_false (by rw [hp0]; simp)
    clear hp0
    gi_wp2_with (refine ⟨trivial, ?_⟩; gi_at_call 79; refine (trees_in _ _ _ _ _).mono ?_; rintro e w' ⟨rfl, rfl⟩)
    obtain ⟨W0, hW0⟩ : ∃ W0, (w2.alloc (.cells #[.int .i64 h.k, .string ⟨h.l.toArray⟩, .slice aa h.ats.length ca, .int .i64 h.n, .int .i64 h.d, .string ⟨h.x.toArray⟩, .slice ak ks.len ck] 43)).alloc (.cells #[.slice a f.len cap] 28) = W0 := ⟨_, rfl⟩
    have hz0 : W0.heap.size = w2.heap.size + 1 + 1 := by rw [← hW0]; simp
    have hx0 : Below w2.heap.size w2 W0 := by rw [← hW0]; exact ((Below.refl _ _).alloc (Nat.le_refl _) _).alloc (by simp) _
    have hN0 : NxI w (w2.heap.size + 1 + 1) p (.slice pa p.length pc) [] (fun k => k < w2.heap.size + 1 + 1) W0 := ⟨fun _ => Iff.rfl, N2.out.below hx0, rfl, by omega⟩
    have hB0 := hN0.nc.bel
    have hc0 : W0.cell? ⟨w2.heap.size + 1, 0, none⟩ = some (.slice a f.len cap) := by rw [← hW0]; simp [go_sem]
    rw [hW0]
    clear hW0 hx0 c0 c1 f1 c2 f2 c3 f3 bel z0 z1 z2 z3
    refine range_own (gf := 123) (lb := #[.pointer (some ⟨w2.heap.size + 1, 0, none⟩)]) rfl (enters_of Tryz.func123 (by kernel_rfl) rfl)
      (trees_seq f (.slice a f.len cap) w (w2.heap.size + 1) HL.out (by omega)) (by omega) ?st (fun x args W h => by obtain ⟨_, _, rfl, _⟩ := h; rfl)
      (NxI w (w2.heap.size + 1 + 1) p (.slice pa p.length pc)) (fun c pre W => c = .ret ∧ NxX w (w2.heap.size + 1 + 1) p (.slice pa p.length pc) pre W) (fun k => k < w2.heap.size + 1 + 1) ?hI ?hIs ?hIx (fun k hk => by omega) hN0
      (fun x a' W => ∃ (b0 : Option Addr) (c0 : Nat) (pv' tv : Value) (u0 u1 u2 u7 u8 u9 u11 u12 u13 u14 u15 u16 u17 u18 u19 u20 u21 u22 u23 u24 u25 u26 u27 u28 u29 u30 : Value), x ∈ seqAt [] 0 f ∧ IntsF 0 W (.slice b0 x.p.length c0) (pathInts x.p) ∧ a' = { tmps := #[u0, u1, u2, .pointer (some ⟨w.heap.size, 0, none⟩), .pointer (some ⟨w.heap.size + 1, 0, none⟩), .pointer (some ⟨w.heap.size + 1 + 1, 0, none⟩), .pointer (some ⟨w.heap.size + 1 + 1 + 1, 0, none⟩), u7, u8, u9, .slice b0 x.p.length c0, u11, u12, u13, u14, u15, u16, u17, u18, u19, u20, u21, u22, u23, u24, u25, u26, u27, u28, u29, u30, pv', tv, undef, undef, undef, undef, undef, undef], defers := [] })
      (fun x a' W l o o' hl ho h => by
        obtain ⟨b0, c0, pv', tv, u0, u1, u2, u7, u8, u9, u11, u12, u13, u14, u15, u16, u17, u18, u19, u20, u21, u22, u23, u24, u25, u26, u27, u28, u29, u30, h1, h2, h3⟩ := h
        exact ⟨b0, c0, pv', tv, u0, u1, u2, u7, u8, u9, u11, u12, u13, u14, u15, u16, u17, u18, u19, u20, u21, u22, u23, u24, u25, u26, u27, u28, u29, u30, h1, intsF_putObj hl ho h2, h3⟩) ?assign ?body ?done ?stop
    case st =>
      intro o
      refine ⟨hB0.trans ((((Below.refl _ W0).alloc (Nat.le_refl _) _).alloc (by simp) _).mono hB0.size), ?_⟩
      simp [go_sem, hz0, hc0]
    case hI => exact fun s G W W' h sp => h.spared sp (by omega)
    case hIs =>
      rintro s G W ⟨g, nc, no, size⟩ k hk
      have := (g k).1 hk; omega
    case hIx =>
      rintro c s W l o o' hl ho hc ⟨rfl, ⟨q, a, cap, hq, nc, hi⟩, size⟩
      exact ⟨rfl, ⟨q, a, cap, hq, nc.same (fun k _ hk => World.putObj_heap_other (by omega)) (by simp) (nc.bel.trans ⟨rfl, rfl, rfl, by simp, fun k hk => World.putObj_heap_other (by omega)⟩), intsF_putObj ho hc hi⟩, by simpa using size⟩
    case assign =>
      rintro n' l pre x args G W K hI ⟨pv', tv, rfl, hp, ht, hx⟩ hz hK
      obtain ⟨b0, c0, rfl⟩ := ints_form hp
      have hp2 := intsF_of hp
      simp only [List.length_map] at hp2 ⊢
      clear hp
      gi_wp2
      exact hK _ _ (But.refl _ _) (Below.refl _ _) hI ⟨b0, c0, _, tv, _, _, _, _, _, _, _, _, _, _, _, _, _, _, _, _, _, _, _, _, _, _, _, _, _, _, hx, hp2, rfl⟩
    case body =>
      rintro n' l pre x a' G W ⟨g, nc, no, size⟩ ⟨b0, c0, pv', tv, u0, u1, u2, u7, u8, u9, u11, u12, u13, u14, u15, u16, u17, u18, u19, u20, u21, u22, u23, u24, u25, u26, u27, u28, u29, u30, hx, hpi, rfl⟩ hz
      have hG1 : G (w.heap.size + 1) := (g _).2 (by omega)
      have hG2 : G (w.heap.size + 1 + 1) := (g _).2 (by omega)
      have hG3 : G (w.heap.size + 1 + 1 + 1) := (g _).2 (by omega)
      have HG := Lib.hid g
      have hpl2 := path_len hx
      have hxl : (pathInts x.p).length ≤ 1000000 := by simp at hpl2 ⊢; omega
      have CM := Lib.hid (compareInts_any (pathInts x.p) p _ _ W (intsF_lies hpi) (ints_below HP.out nc.bel) hxl hpl)
      have CL := Lib.hid (cloneInts_any _ (pathInts x.p) W (intsF_lies hpi) hxl)
      have HNV := Lib.hid (nextV_snoc (x := x) no)
      have NCC := Lib.hid nc
      have HXL := Lib.hid (show (pathInts x.p).length = x.p.length by simp)
      clear g no hx hpl2 hxl
      obtain ⟨c0', c1, f1, c2, f2, c3, f3, size', bel⟩ := nc
      gi_wp2_with fail
      refine ⟨trivial, fun h => (by cases h), (CallsIn.inRound l (callsIn_wide.2 CM.out)).mono ?_⟩
      rintro e w3 ⟨rfl, rfl⟩
      generalize cmpL (pathInts x.p) p = c at *
      by_cases hc : 0 < c
      · have dc : decide (0 < c) = true := by simpa using hc
        have HNX := Lib.hid (HNV.out.trans (if_pos hc))
        clear hc
        gi_wp2_with fail
        refine ⟨trivial, fun h => (by cases h), (CallsIn.inRound l (callsIn_wide.2 CL.out)).mono ?_⟩
        rintro e w4 ⟨v4, rfl, hi4, hb4⟩
        obtain ⟨a4, cap4, rfl⟩ := intsF_form hi4
        have N4 := Lib.hid (NCC.out.below hb4)
        have hs4 := hb4.size
        have HB4 := Lib.hid hb4
        have HI4 := Lib.hid hi4
        clear c0' c1 f1 c2 f2 c3 f3 size' bel hb4 hi4
        obtain ⟨c0', c1, f1, c2, f2, c3, f3, size', bel⟩ := N4.out
        gi_wp2_with fail
        have N5 := N4.out.set3 (.slice a4 x.p.length cap4) (.bool true) (.int .i64 0)
        have hkp := ((Keeps.setCell (B := w.heap.size + 4) w4 (b := w.heap.size + 1) (by omega) 0 (.slice a4 x.p.length cap4)).trans (Keeps.setCell _ (b := w.heap.size + 1 + 1) (by omega) 0 (.bool true))).trans (Keeps.setCell _ (b := w.heap.size + 1 + 1 + 1) (by omega) 0 (.int .i64 0))
        have hi5 := intsF_keeps (intsF_mono (B' := w.heap.size + 4) (by have := NCC.out.size; omega) HI4.out) hkp
        have hz5 := hkp.1
        exact ⟨(((But.of_below HB4.out).trans (But.setCell _ hG1 _)).trans (But.setCell _ hG2 _)).trans (But.setCell _ hG3 _), rfl, ⟨pathInts x.p, a4, cap4, HNX.out, by rw [HXL.out]; exact N5, hi5⟩, by omega⟩
      · have dc : decide (0 < c) = false := by simpa using hc
        have HNX := Lib.hid (HNV.out.trans (if_neg hc))
        clear hc
        gi_wp2_with fail
        exact ⟨But.refl _ _, Below.refl _ _, G, fun k hk => .inl hk, HG.out, NCC.out, HNX.out, size⟩
    case done =>
      rintro D ys G W hD rfl ⟨g, nc, no, size⟩ hK
      have NCC := Lib.hid nc
      obtain ⟨c0, c1, f1, c2, f2, c3, f3, size', bel⟩ := nc
      gi_wp2
      have HN := Lib.hid (show nextF f p = ([], false, 0) by rw [HR.out, no])
      clear c0 c1 f1 c2 f2 c3 f3 bel
      have hK2 : (((W.setCell ⟨w.heap.size + 1, 0, none⟩ (.slice none 0 0)).setCell ⟨w.heap.size + 1 + 1, 0, none⟩ (.bool false)).setCell ⟨w.heap.size + 1 + 1 + 1, 0, none⟩ (.int .i64 0)).heap[D]? = some (.deferred (some [])) := (((KeepsOthers.setCell W _ _).trans (KeepsOthers.setCell _ _ _)).trans (KeepsOthers.setCell _ _ _)).same D _ hK rfl
      refine ⟨by simp, .inl ⟨_, _, rfl, run_takeDeferred hK2, ?_⟩⟩
      have hb2 := belowK_b (w := W0) (Nat.le_refl _) _ D _ (.deferred none) (by simpa using hD) hK2 rfl rfl
      have N3 := NCC.out.set3 (.slice none 0 0) (.bool false) (.int .i64 0)
      have N4 := N3.same (fun k _ hk => hb2.block k (by omega)) hb2.size (N3.bel.trans (hb2.mono (by omega)))
      generalize (((W.setCell ⟨w.heap.size + 1, 0, none⟩ (.slice none 0 0)).setCell ⟨w.heap.size + 1 + 1, 0, none⟩ (.bool false)).setCell ⟨w.heap.size + 1 + 1 + 1, 0, none⟩ (.int .i64 0)).putObj D (.deferred none) = Wf at N4 ⊢
      obtain ⟨c0, c1, f1, c2, f2, c3, f3, size', bel⟩ := N4
      refine ⟨.tuple #[.slice none 0 0, .bool false, .int .i64 0], by simp (maxDischargeDepth := 8) [results, go_sem, Tryz.results38, c1, c2, c3], ?_⟩
      rw [HN.out]
      exact ⟨none, 0, rfl, .inl ⟨_, _, rfl, rfl⟩, bel⟩
    case stop =>
      rintro D c pre W hD hp ⟨rfl, ⟨q, aq, capq, hq, nc, hi⟩, size⟩ hK
      have HN := Lib.hid (show nextF f p = (q, true, 0) by rw [HR.out, nextV_pre hp hq])
      gi_wp2
      refine ⟨by simp, .inl ⟨_, _, rfl, run_takeDeferred hK, ?_⟩⟩
      have hb2 := belowK_b (w := W0) (Nat.le_refl _) _ D _ (.deferred none) (by simpa using hD) hK rfl rfl
      have N4 := nc.same (fun k _ hk => hb2.block k (by omega)) hb2.size (nc.bel.trans (hb2.mono (by omega)))
      have hi4 := intsF_putObj (o' := .deferred none) hK rfl hi
      generalize W.putObj D (.deferred none) = Wf at N4 hi4 ⊢
      obtain ⟨c0, c1, f1, c2, f2, c3, f3, size', bel⟩ := N4
      refine ⟨.tuple #[.slice aq q.length capq, .bool true, .int .i64 0], by simp (maxDischargeDepth := 8) [results, go_sem, Tryz.results38, c1, c2, c3], ?_⟩
      rw [HN.out]
      exact ⟨aq, capq, rfl, intsF_mono (by omega) hi4, bel⟩

theorem next_any (f : Fo) (p : List Int) (v pv : Value) (w : World) (hl : Lies w v f) (hs : Small f) (hp : IntsLie w pv p) (hpl : p.length ≤ 1000000) :
    Calls Tryz.prog 38 #[v, pv] w (NextRes w (nextF f p)) := by
  by_cases he : foErr f = 0
  · by_cases h : (placeF f p).isSome = false ∧ p ≠ []
    · exact next_absent f p v pv w hl hs hp hpl he h.1 h.2
    · refine callsIn_wide.1 (next_in f p v pv w hl hs hp hpl he ?_)
      by_cases hp0 : p = []
      · exact .inr hp0
      · refine .inl ?_
        cases hq : (placeF f p).isSome with
        | true => rfl
        | false => exact absurd ⟨hq, hp0⟩ h
  · exact next_err f p v pv w hl hs hp he
end Go.Proofs.YtcgedpfolloinaaGreat

namespace Go.Proofs.YtcgedpfolloinaaGreat
open Go.RowKit

theorem ints_three {W : World} {b : Nat} {T : TypeId} {x y z : Int} (h : W.heap[b]? = some (.cells #[.int .i64 x, .int .i64 y, .int .i64 z] T (0, 0))) (hb : b < W.heap.size) : IntsLie W (.slice (some ⟨b, 0, none⟩) 3 3) [x, y, z] := by
  refine .inr ⟨b, 0, 3, rfl, by simp, hb, fun k hk => ?_⟩
  match k, hk with
  | 0, _ => exact cell_of_block h rfl
  | 1, _ => exact cell_of_block h rfl
  | 2, _ => exact cell_of_block h rfl
theorem ex_small : Small exF := readP_small (l := exText) (by decide) read_ex
theorem ex_size : sizeT exF = (7, 0) := by decide +kernel
theorem ex_at : atErr exF [0, 1, 1] = 0 := by decide +kernel
theorem ex_place : placeF exF [0, 1, 1] = some (numHd (-2) 1, .nil) := by kernel_rfl
theorem ex_print : printF exF = (exText, 0) := by decide +kernel
theorem ex_next : nextF exF [0, 1, 1] = ([0, 2], true, 0) := by decide +kernel
theorem ex_alike : alikeB [0, 2] [0, 2] = true := by decide

set_option maxRecDepth 100000 in
set_option maxHeartbeats 8000000 in
theorem grown_any (w : World) : Calls Tryz.prog 16 #[] w fun e w' => e = .returned (.bool true) ∧ Below w.heap.size w w' := by
  have EX := Lib.hid (fun w => example_any w)
  have SZ := Lib.hid (fun v W (h : Lies W v exF) => tsize_any exF v W h ex_small)
  have AT := Lib.hid (fun v u W (h : Lies W v exF) (hp : IntsLie W u [0, 1, 1]) => at_any exF [0, 1, 1] v u W h ex_small hp (by decide))
  have PR := Lib.hid (fun v W (h : Lies W v exF) => print_tree exF v W h ex_small)
  have NX := Lib.hid (fun v u W (h : Lies W v exF) (hp : IntsLie W u [0, 1, 1]) => next_any exF [0, 1, 1] v u W h ex_small hp (by decide))
  have PA := Lib.hid (fun W => tparse_any exText W (by decide))
  have AL := Lib.hid (fun v u W (h1 : IntsLie W v [0, 2]) (h2 : IntsLie W u [0, 2]) => alike_any v u [0, 2] [0, 2] W h1 h2 (by decide) (by decide))
  have SR := Lib.hid (fun v u W (h1 : Lies W v exF) (h2 : Lies W u exF) => same_refl 100000 exF ex_small.size v u W h1 h2)
  rw [ex_size] at SZ
  rw [ex_print] at PR
  rw [ex_next] at NX
  rw [ex_alike] at AL
  simp only [parsed_ex] at PA
  have exT : exText = [100, 111, 99, 40, 108, 97, 110, 103, 61, 34, 101, 110, 34, 41, 123, 34, 104, 105, 34, 32, 98, 123, 51, 47, 52, 32, 45, 50, 125, 32, 98, 125, 32, 55] := rfl
  go_enter Tryz.func16, Tryz.ntmps16
  go_wp2_with fail
  refine (EX.out _).mono ?_
  rintro e w1 ⟨a, rfl, hl1, hb1⟩
  have B1 := Lib.hid hb1
  have L1 := Lib.hid hl1
  have hs1 := hb1.size
  clear hb1 hl1
  go_wp2_with fail
  refine (SZ.out _ _ L1.out).mono ?_
  rintro e w2 ⟨rfl, hb2⟩
  have L2 := Lib.hid (lies_below L1.out hb2)
  have B2 := Lib.hid (B1.out.trans (hb2.mono hs1))
  clear hb2
  go_wp2_with fail
  have I3 : IntsLie (w2.alloc (.cells #[.int .i64 0, .int .i64 1, .int .i64 1] 3)) (.slice (some ⟨w2.heap.size, 0, none⟩) 3 3) [0, 1, 1] := ints_three (World.alloc_heap_new _ _) (by simp)
  have L2' := lies_below L2.out ((Below.refl _ w2).alloc (Nat.le_refl _) (.cells #[.int .i64 0, .int .i64 1, .int .i64 1] 3))
  have B2' : Below w.heap.size w (w2.alloc (.cells #[.int .i64 0, .int .i64 1, .int .i64 1] 3)) := B2.out.alloc B2.out.size _
  generalize w2.alloc (.cells #[.int .i64 0, .int .i64 1, .int .i64 1] 3) = W3 at *
  generalize (Value.slice (some ⟨w2.heap.size, 0, none⟩) 3 3) = u3 at *
  refine (AT.out _ _ _ L2' I3).mono ?_
  rintro e w3 ⟨h, ks, aa, ca, ak, ck, rfl, _, _, hor, hb3⟩
  rw [ex_at, ex_place] at hor
  obtain ⟨rfl, rfl⟩ : h = numHd (-2) 1 ∧ ks = .nil := by
    rcases hor with ⟨_, h1⟩ | ⟨h1, _⟩
    · have := Prod.mk.inj (Option.some.inj h1); exact ⟨this.1.symm, this.2.symm⟩
    · exact absurd rfl h1
  have L3 := Lib.hid (lies_below L2' hb3)
  have B3 := Lib.hid (B2'.trans (hb3.mono B2'.size))
  rw [ex_at]
  clear hor hb3 L2' I3 B2' L2 B2
  unfold aggOf numHd
  go_wp2_with fail
  generalize hW4 : w3.alloc _ = W4
  have K4 := Lib.hid (show W4.heap[w3.heap.size]? = some (.cells #[.int .i64 1, .string ⟨#[]⟩, .slice aa 0 ca, .int .i64 (-2), .int .i64 1, .string ⟨#[]⟩, .slice ak 0 ck] 43 (0, 0)) by rw [← hW4]; exact World.alloc_heap_new _ _)
  have hb4 : Below w3.heap.size w3 W4 := by rw [← hW4]; exact (Below.refl _ w3).alloc (Nat.le_refl _) _
  have L4 := Lib.hid (lies_below L3.out hb4)
  have B4 := Lib.hid (B3.out.trans (hb4.mono B3.out.size))
  generalize w3.heap.size = T4 at *
  clear hb4 hW4
  refine (PR.out _ _ L4.out).mono ?_
  rintro e w5 ⟨rfl, hb5⟩
  have h4 := (Array.getElem?_eq_some_iff.1 K4.out).1
  have K5 := Lib.hid ((hb5.block _ h4).trans K4.out)
  have L5 := Lib.hid (lies_below L4.out hb5)
  have B5 := Lib.hid (B4.out.trans (hb5.mono B4.out.size))
  have hs5 := hb5.size
  clear hb5 K4 L4 B4
  go_wp2_with fail
  have I6 : IntsLie (w5.alloc (.cells #[.int .i64 0, .int .i64 1, .int .i64 1] 3)) (.slice (some ⟨w5.heap.size, 0, none⟩) 3 3) [0, 1, 1] := ints_three (World.alloc_heap_new _ _) (by simp)
  have hb6 : Below w5.heap.size w5 (w5.alloc (.cells #[.int .i64 0, .int .i64 1, .int .i64 1] 3)) := (Below.refl _ w5).alloc (Nat.le_refl _) _
  have L6 := lies_below L5.out hb6
  have B6 := B5.out.trans (hb6.mono B5.out.size)
  have K6 := (hb6.block T4 (by omega)).trans K5.out
  have hs6 := hb6.size
  generalize w5.alloc (.cells #[.int .i64 0, .int .i64 1, .int .i64 1] 3) = W6 at *
  generalize (Value.slice (some ⟨w5.heap.size, 0, none⟩) 3 3) = u6 at *
  refine (NX.out _ _ _ L6 I6).mono ?_
  rintro e w7 ⟨a7, c7, rfl, hi7, hb7⟩
  have I7 := Lib.hid hi7
  have K7 := Lib.hid ((hb7.block T4 (by omega)).trans K6)
  have L7 := Lib.hid (lies_below L6 hb7)
  have B7 := Lib.hid (B6.trans (hb7.mono B6.size))
  have hs7 := hb7.size
  clear hb7 hb6 K6 L6 B6 I6 hi7
  simp only
  go_wp2_with fail
  refine (PA.out _).mono ?_
  rintro e w8 ⟨v8, rfl, hv8, hb8⟩
  obtain ⟨a8, c8, rfl⟩ := liesF_form hv8
  have I8 := Lib.hid (intsF_keeps I7.out (Keeps.of_below hb8))
  have V8 := Lib.hid (liesF_lies hv8)
  have K8 := (hb8.block T4 (by omega)).trans K7.out
  have L8 := Lib.hid (lies_below L7.out hb8)
  have B8 := Lib.hid (B7.out.trans (hb8.mono B7.out.size))
  have hs8 := hb8.size
  have c3 : w8.cell? ⟨T4, 3, none⟩ = some (.int .i64 (-2)) := cell_of_block K8 rfl
  have c4 : w8.cell? ⟨T4, 4, none⟩ = some (.int .i64 1) := cell_of_block K8 rfl
  clear hb8 hv8 K8 I7 L7 K7 B7
  go_wp2_with fail
  have I9 : IntsLie (w8.alloc (.cells #[.int .i64 0, .int .i64 2] 3)) (.slice (some ⟨w8.heap.size, 0, none⟩) 2 2) [0, 2] := ints_pair (World.alloc_heap_new _ _) (by simp)
  have hb9 : Below w8.heap.size w8 (w8.alloc (.cells #[.int .i64 0, .int .i64 2] 3)) := (Below.refl _ w8).alloc (Nat.le_refl _) _
  have J9 := ints_below (intsF_lies I8.out) hb9
  have L9 := lies_below L8.out hb9
  have V9 := lies_below V8.out hb9
  have B9 := B8.out.trans (hb9.mono B8.out.size)
  generalize w8.alloc (.cells #[.int .i64 0, .int .i64 2] 3) = W9 at *
  generalize (Value.slice (some ⟨w8.heap.size, 0, none⟩) 2 2) = u9 at *
  refine (AL.out _ _ _ J9 I9).mono ?_
  rintro e w10 ⟨rfl, hb10⟩
  have L10 := Lib.hid (lies_below L9 hb10)
  have V10 := Lib.hid (lies_below V9 hb10)
  have B10 := Lib.hid (B9.trans (hb10.mono B9.size))
  clear hb10 hb9 J9 I9 L9 V9 B9
  go_wp2_with fail
  refine (SR.out _ _ _ L10.out V10.out).mono ?_
  rintro e w11 ⟨rfl, hb11⟩
  have B11 := Lib.hid (B10.out.trans (hb11.mono B10.out.size))
  clear hb11
  go_wp2_with fail
  go_ret
  exact ⟨rfl, B11.out⟩
end Go.Proofs.YtcgedpfolloinaaGreat
