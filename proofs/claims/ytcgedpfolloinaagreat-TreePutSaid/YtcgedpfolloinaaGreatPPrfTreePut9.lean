/- What the proof of PrfTreePut rests on, part 9 of 11. -/
import Derived.Maps.AppendAt
import Derived.Deep.DeepCutAuto
import Derived.Lib.AppendZeros
import Derived.Test.YtcgedpfolloinaaGreatPPrfTreePut8
namespace Go.Proofs.YtcgedpfolloinaaGreat
open Go.RowKit

def hdN (N : Nat) (h : Hd) : Prop := h.l.length ≤ N ∧ h.x.length ≤ N ∧ ∀ q ∈ h.ats, q.1.length ≤ N ∧ q.2.length ≤ N
def foN (N : Nat) : Fo → Prop
  | .nil => True
  | .cons h ks r => hdN N h ∧ foN N ks ∧ foN N r
theorem hdN.mono {N M : Nat} {h : Hd} (H : hdN N h) (hm : N ≤ M) : hdN M h := ⟨Nat.le_trans H.1 hm, Nat.le_trans H.2.1 hm, fun q hq => ⟨Nat.le_trans (H.2.2 q hq).1 hm, Nat.le_trans (H.2.2 q hq).2 hm⟩⟩
theorem foN_mono {N M : Nat} (hm : N ≤ M) : ∀ {f : Fo}, foN N f → foN M f
  | .nil, _ => trivial
  | .cons _ _ _, H => ⟨H.1.mono hm, foN_mono hm H.2.1, foN_mono hm H.2.2⟩
theorem beginP_fit {l r : List UInt8} {h : Hd} (hb : beginP l = some (h, r)) : hdN l.length h := by
  cases l with
  | nil => cases hb
  | cons c t =>
    by_cases h34 : c.toNat = 34
    · rw [show beginP (c :: t) = (quoP (c :: t)).map fun x => (⟨2, [], [], 0, 0, x.1⟩, x.2) by unfold beginP; simp [h34]] at hb
      simp only [Option.map_eq_some_iff, Prod.mk.injEq, Prod.exists] at hb
      obtain ⟨s, r', h1, rfl, _⟩ := hb
      have := quoP_len h1
      exact ⟨Nat.zero_le _, by simp only; omega, fun q hq => by simp at hq⟩
    · by_cases hd : c.toNat = 45 ∨ digitB c = true
      · rw [show beginP (c :: t) = (figP (c :: t)).map fun x => (⟨1, [], [], x.1.1, x.1.2, []⟩, x.2) by unfold beginP; simp only [if_neg h34, if_pos hd]] at hb
        simp only [Option.map_eq_some_iff, Prod.mk.injEq, Prod.exists] at hb
        obtain ⟨n, d, r', _, rfl, _⟩ := hb
        exact ⟨Nat.zero_le _, Nat.zero_le _, fun q hq => by simp at hq⟩
      · rw [show beginP (c :: t) = if wordLen (c :: t) = 0 then none else some (⟨0, (c :: t).take (wordLen (c :: t)), [], 0, 0, []⟩, (c :: t).drop (wordLen (c :: t))) by unfold beginP; simp only [if_neg h34, if_neg hd]] at hb
        by_cases h0 : wordLen (c :: t) = 0
        · rw [if_pos h0] at hb; cases hb
        · rw [if_neg h0] at hb
          have h4 := (Prod.mk.inj (Option.some.inj hb)).1
          rw [← h4]
          exact ⟨by simp only [List.length_take]; omega, Nat.zero_le _, fun q hq => by simp at hq⟩
theorem attrP_fit {l r : List UInt8} {a : List UInt8 × List UInt8} (h : attrP l = some (a, r)) : a.1.length ≤ l.length ∧ a.2.length ≤ l.length := by
  unfold attrP at h
  by_cases h0 : wordLen l = 0
  · rw [if_pos h0] at h; cases h
  · rw [if_neg h0] at h
    cases hd : l.drop (wordLen l) with
    | nil => rw [hd] at h; cases h
    | cons c t =>
      rw [hd] at h
      simp only at h
      have hlen := congrArg List.length hd
      simp at hlen
      by_cases hc : c.toNat = 61
      · rw [if_pos hc] at h
        simp only [Option.map_eq_some_iff, Prod.mk.injEq, Prod.exists] at h
        obtain ⟨s, r', hq, rfl, _⟩ := h
        have := quoP_len hq
        exact ⟨by simp only [List.length_take]; omega, by simp only; omega⟩
      · rw [if_neg hc] at h; cases h
theorem attrsP_fit : ∀ (n : Nat) {l r : List UInt8} {a : List (List UInt8 × List UInt8)}, attrsP n l = some (a, r) → ∀ q ∈ a, q.1.length ≤ l.length ∧ q.2.length ≤ l.length
  | 0, l, r, a, h => by simp [attrsP] at h; rw [h.1]; intro q hq; cases hq
  | n + 1, l, r, a, h => by
    by_cases hc : l.head? = some 44
    · cases l with
      | nil => cases hc
      | cons c t =>
        rw [attrsP_more (by rw [show c = 44 by simpa using hc]; rfl)] at h
        cases hq : attrP t with
        | none => rw [hq] at h; cases h
        | some x =>
          obtain ⟨a1, r1⟩ := x
          rw [hq] at h
          simp only [Option.map_eq_some_iff, Prod.mk.injEq, Prod.exists] at h
          obtain ⟨a2, r2, h2, rfl, rfl⟩ := h
          have h3 := attrsP_fit n h2
          have h4 := attrP_len hq
          have h5 := attrP_fit hq
          intro q hm
          rcases List.mem_cons.1 hm with rfl | hm
          · simp; omega
          · have := h3 q hm
            simp; omega
    · rw [attrsP_stop hc] at h
      simp at h
      rw [h.1]; intro q hq; cases hq
theorem attributesP_fit {l r : List UInt8} {a : List (List UInt8 × List UInt8)} (h : attributesP l = some (a, r)) : ∀ q ∈ a, q.1.length ≤ l.length ∧ q.2.length ≤ l.length := by
  unfold attributesP at h
  cases hq : attrP l with
  | none => rw [hq] at h; cases h
  | some x =>
    obtain ⟨a1, r1⟩ := x
    rw [hq] at h
    simp only [Option.map_eq_some_iff, Prod.mk.injEq, Prod.exists] at h
    obtain ⟨a2, r2, h2, rfl, rfl⟩ := h
    have h3 := attrsP_fit _ h2
    have h4 := attrP_len hq
    have h5 := attrP_fit hq
    intro q hm
    rcases List.mem_cons.1 hm with rfl | hm
    · exact h5
    · have := h3 q hm
      omega
theorem expP_same {α : Type} {k : Nat} {x y : α} {l r : List UInt8} (h : expP k x l = some (y, r)) : y = x := by
  cases l with
  | nil => cases h
  | cons c t =>
    rw [show expP k x (c :: t) = if c.toNat = k then some (x, t) else none from rfl] at h
    by_cases hc : c.toNat = k
    · rw [if_pos hc] at h
      exact ((Prod.mk.inj (Option.some.inj h)).1).symm
    · rw [if_neg hc] at h; cases h
theorem optA_fit {l r : List UInt8} {a : List (List UInt8 × List UInt8)} (h : optA l = some (a, r)) : ∀ q ∈ a, q.1.length ≤ l.length ∧ q.2.length ≤ l.length := by
  by_cases hc : l.head? = some 40
  · cases l with
    | nil => cases hc
    | cons c t =>
      obtain rfl : c = 40 := by simpa using hc
      rw [show optA (40 :: t) = (attributesP t).bind fun x => expP 41 x.1 x.2 from rfl] at h
      simp only [Option.bind_eq_some_iff, Prod.exists] at h
      obtain ⟨a1, r1, h1, h2⟩ := h
      obtain rfl := expP_same h2
      have := attributesP_fit h1
      intro q hq
      have := this q hq
      simp; omega
  · rw [optA_no hc] at h
    have := (Prod.mk.inj (Option.some.inj h)).1
    rw [← this]; intro q hq; cases hq
/-- so much of a text is a forest. -/
def FitF (F : List UInt8 → Option (Fo × List UInt8)) : Prop := ∀ t g u, F t = some (g, u) → g.size + u.length ≤ t.length ∧ foN t.length g
theorem optK_fit {F : List UInt8 → Option (Fo × List UInt8)} (HF : FitF F) {l r : List UInt8} {g : Fo} (h : optK F l = some (g, r)) : g.size + r.length ≤ l.length ∧ foN l.length g := by
  by_cases hc : l.head? = some 123
  · cases l with
    | nil => cases hc
    | cons c t =>
      obtain rfl : c = 123 := by simpa using hc
      rw [show optK F (123 :: t) = (F t).bind fun x => expP 125 x.1 x.2 from rfl] at h
      simp only [Option.bind_eq_some_iff, Prod.exists] at h
      obtain ⟨a1, r1, h1, h2⟩ := h
      obtain rfl := expP_same h2
      have h3 := HF _ _ _ h1
      have := expP_len h2
      exact ⟨by simp; omega, foN_mono (by simp) h3.2⟩
  · rw [optK_no hc] at h
    have h1 := Prod.mk.inj (Option.some.inj h)
    rw [← h1.1, ← h1.2]
    exact ⟨by simp [Fo.size], trivial⟩
theorem treeP_fit {F : List UInt8 → Option (Fo × List UInt8)} (HF : FitF F) {l r : List UInt8} {x : Hd × Fo} (h : treeP F l = some (x, r)) : x.2.size + r.length + 1 ≤ l.length ∧ hdN l.length x.1 ∧ foN l.length x.2 := by
  cases hb : beginP l with
  | none => rw [treeP_none hb] at h; cases h
  | some y =>
    obtain ⟨hd, r0⟩ := y
    have hl := beginP_len hb
    have hf := beginP_fit hb
    rcases beginP_form hb with ⟨s, rfl⟩ | ⟨n, d, rfl⟩ | ⟨s, rfl⟩
    · rw [treeP_word hb] at h
      simp only [Option.bind_eq_some_iff, Option.map_eq_some_iff, Prod.mk.injEq, Prod.exists] at h
      obtain ⟨a, r1, h1, g, r2, h2, rfl, rfl⟩ := h
      have h3 := optA_len h1
      have h4 := optA_fit h1
      have h5 := optK_fit HF h2
      refine ⟨by simp only; omega, ⟨hf.1, Nat.zero_le _, fun q hq => ?_⟩, foN_mono (by omega) h5.2⟩
      have := h4 q hq
      omega
    · rw [treeP_leaf hb (by simp)] at h
      have h1 := Prod.mk.inj (Option.some.inj h)
      rw [← h1.1, ← h1.2]
      exact ⟨by simp [Fo.size]; omega, hf, trivial⟩
    · rw [treeP_leaf hb (by simp)] at h
      have h1 := Prod.mk.inj (Option.some.inj h)
      rw [← h1.1, ← h1.2]
      exact ⟨by simp [Fo.size]; omega, hf, trivial⟩
theorem restP_fit {F : List UInt8 → Option (Fo × List UInt8)} (HF : FitF F) : ∀ (m : Nat) (l : List UInt8) (g : Fo) (u : List UInt8), restP (treeP F) m l = some (g, u) → g.size + u.length ≤ l.length ∧ foN l.length g
  | 0, l, g, u, h => by
    rw [restP] at h
    have h1 := Prod.mk.inj (Option.some.inj h)
    rw [← h1.1, ← h1.2]
    exact ⟨by simp [Fo.size], trivial⟩
  | m + 1, l, g, u, h => by
    by_cases hc : l.head? = some 32
    · cases l with
      | nil => cases hc
      | cons c t =>
        obtain rfl : c = 32 := by simpa using hc
        rw [restP_more] at h
        simp only [Option.bind_eq_some_iff, Option.map_eq_some_iff, Prod.mk.injEq, Prod.exists] at h
        obtain ⟨hd, ks, r, h1, g2, u2, h2, rfl, rfl⟩ := h
        have h3 := treeP_fit HF h1
        have h4 := restP_fit HF m _ _ _ h2
        simp only at h3
        refine ⟨by simp [Fo.size]; omega, h3.2.1.mono (by simp), foN_mono (by simp) h3.2.2, foN_mono (by simp; omega) h4.2⟩
    · rw [restP_stop hc] at h
      have h1 := Prod.mk.inj (Option.some.inj h)
      rw [← h1.1, ← h1.2]
      exact ⟨by simp [Fo.size], trivial⟩
theorem forestP_fit : ∀ n : Nat, FitF (forestP n)
  | 0 => fun _ _ _ h => by cases h
  | n + 1 => fun l g u h => by
    have HF := forestP_fit n
    rw [forestP_eq] at h
    simp only [Option.bind_eq_some_iff, Option.map_eq_some_iff, Prod.mk.injEq, Prod.exists] at h
    obtain ⟨hd, ks, r, h1, g2, u2, h2, rfl, rfl⟩ := h
    have h3 := treeP_fit HF h1
    have h4 := restP_fit HF _ _ _ _ h2
    simp only at h3
    refine ⟨by simp [Fo.size]; omega, h3.2.1, h3.2.2, foN_mono (by omega) h4.2⟩
theorem readP_fit {l : List UInt8} {f : Fo} (h : readP l = some f) : f.size ≤ l.length ∧ foN l.length f := by
  cases l with
  | nil => cases h; exact ⟨Nat.le_refl _, trivial⟩
  | cons c t =>
    unfold readP at h
    simp only at h
    cases hq : forestP ((c :: t).length + 1) (c :: t) with
    | none => rw [hq] at h; cases h
    | some x =>
      obtain ⟨g, r⟩ := x
      rw [hq] at h
      cases r with
      | nil =>
        have := forestP_fit _ _ _ _ hq
        cases h
        exact ⟨by simpa using this.1, this.2⟩
      | cons _ _ => cases h
theorem deep_size : ∀ f : Fo, f.deep ≤ f.size
  | .nil => Nat.le_refl _
  | .cons h ks r => by have := deep_size ks; have := deep_size r; simp only [Fo.deep, Fo.size]; omega
theorem deepL_eq : ∀ (f : Fo) (n : Int), f.size ≤ 100000 → deepL n f = max n (f.deep : Int) ∨ (f = .nil ∧ deepL n f = n)
  | .nil, n, _ => .inr ⟨rfl, rfl⟩
  | .cons h ks r, n, hs => by
    left
    have hz : ks.size + r.size + 1 ≤ 100000 := by simp only [Fo.size] at hs; omega
    have hd := deep_size ks
    have h1 : deepL 0 ks = (ks.deep : Int) := by
      rcases deepL_eq ks 0 (by omega) with e | ⟨e, e2⟩
      · rw [e]; omega
      · rw [e2, e]; rfl
    have h2 : wrap64 (1 + deepL 0 ks) = 1 + (ks.deep : Int) := by
      rw [h1]; unfold wrap64; omega
    simp only [deepL, h2]
    rcases deepL_eq r (max n (1 + (ks.deep : Int))) (by omega) with e | ⟨e, e2⟩
    · rw [e]; simp only [Fo.deep]; omega
    · rw [e2, e]; simp only [Fo.deep]; omega
theorem foN_fit {N : Nat} (hN : N ≤ 1000000) : ∀ f : Fo, foN N f → foFit f
  | .nil, _ => trivial
  | .cons h ks r, H => by
    refine ⟨⟨Nat.le_trans H.1.1 hN, Nat.le_trans H.1.2.1 hN, fun j hj => ?_⟩, foN_fit hN ks H.2.1, foN_fit hN r H.2.2⟩
    have : h.ats.getD j ([], []) ∈ h.ats := by
      rw [List.getD_eq_getElem?_getD, List.getElem?_eq_getElem hj, Option.getD_some]
      exact List.getElem_mem _
    exact ⟨Nat.le_trans (H.1.2.2 _ this).1 hN, Nat.le_trans (H.1.2.2 _ this).2 hN⟩
theorem small_foN {N : Nat} (hN : N ≤ 100000) {f : Fo} (hs : f.size ≤ N) (hf : foN N f) : Small f := by
  refine ⟨by omega, by have := deep_size f; omega, ?_, foN_fit (by omega) f hf⟩
  rcases deepL_eq f 0 (by omega) with e | ⟨e, e2⟩
  · rw [e]; omega
  · rw [e2, e]; rfl
theorem readP_small {l : List UInt8} {f : Fo} (hl : l.length ≤ 100000) (h : readP l = some f) : Small f := small_foN hl (readP_fit h).1 (readP_fit h).2
end Go.Proofs.YtcgedpfolloinaaGreat

namespace Go.Proofs.YtcgedpfolloinaaGreat
open Go.RowKit

/-- the forest F of the examples. -/
def numHd (n d : Int) : Hd := ⟨1, [], [], n, d, []⟩
def exF : Fo :=
  .cons ⟨0, [100, 111, 99], [([108, 97, 110, 103], [101, 110])], 0, 0, []⟩
    (.cons ⟨2, [], [], 0, 0, [104, 105]⟩ .nil
      (.cons ⟨0, [98], [], 0, 0, []⟩ (.cons (numHd 3 4) .nil (.cons (numHd (-2) 1) .nil .nil))
        (.cons ⟨0, [98], [], 0, 0, []⟩ .nil .nil)))
    (.cons (numHd 7 1) .nil .nil)

theorem allocs_keep : ∀ (os : List Obj) (w : World) (k : Nat), k < w.heap.size → (os.foldl World.alloc w).heap[k]? = w.heap[k]?
  | [], _, _, _ => rfl
  | o :: os, w, k, h => (allocs_keep os (w.alloc o) k (by simp; omega)).trans (Below.heap_alloc w o k h)
theorem allocs_heap : ∀ (os : List Obj) (w : World) (i : Nat) (o : Obj), os[i]? = some o → (os.foldl World.alloc w).heap[w.heap.size + i]? = some o
  | [], _, _, _, h => by simp at h
  | x :: os, w, 0, o, h => by
    simp only [List.getElem?_cons_zero, Option.some.injEq] at h
    subst h
    exact (allocs_keep os (w.alloc x) w.heap.size (by simp)).trans (World.alloc_heap_new _ _)
  | x :: os, w, i + 1, o, h => by
    have := allocs_heap os (w.alloc x) i o (by simpa using h)
    rw [show (w.alloc x).heap.size = w.heap.size + 1 by simp] at this
    rw [show w.heap.size + (i + 1) = w.heap.size + 1 + i by omega]
    exact this
theorem allocs_size : ∀ (os : List Obj) (w : World), (os.foldl World.alloc w).heap.size = w.heap.size + os.length
  | [], _ => rfl
  | o :: os, w => by rw [List.foldl_cons, allocs_size os]; simp; omega
theorem allocs_below : ∀ (os : List Obj) (w : World) (B : Nat) (w0 : World), B ≤ w.heap.size → Below B w0 w → Below B w0 (os.foldl World.alloc w)
  | [], _, _, _, _, h => h
  | o :: os, w, B, w0, hB, h => allocs_below os (w.alloc o) B w0 (by simp; omega) (h.alloc hB o)
/-- what the example lays. -/
def exObjs (w : World) : List Obj := [.cells #[.int .i64 1, .string ⟨#[]⟩, .slice none 0 0, .int .i64 3, .int .i64 4, .string ⟨#[]⟩, .slice none 0 0] 43,
    .cells #[.int .i64 1, .string ⟨#[]⟩, .slice none 0 0, .int .i64 (-2), .int .i64 1, .string ⟨#[]⟩, .slice none 0 0] 43,
    .cells #[.int .i64 2, .string ⟨#[]⟩, .slice none 0 0, .int .i64 0, .int .i64 0, .string ⟨#[104, 105]⟩, .slice none 0 0] 43,
    .cells #[.int .i64 1, .string ⟨#[]⟩, .slice none 0 0, .int .i64 3, .int .i64 4, .string ⟨#[]⟩, .slice none 0 0, .int .i64 1, .string ⟨#[]⟩, .slice none 0 0, .int .i64 (-2), .int .i64 1, .string ⟨#[]⟩, .slice none 0 0] 43,
    .cells #[.int .i64 0, .string ⟨#[98]⟩, .slice none 0 0, .int .i64 0, .int .i64 0, .string ⟨#[]⟩, .slice (some ⟨w.heap.size + 1 + 1 + 1, 0, none⟩) 2 2] 43,
    .cells #[.string ⟨#[108, 97, 110, 103]⟩, .string ⟨#[101, 110]⟩] 81,
    .cells #[.int .i64 2, .string ⟨#[]⟩, .slice none 0 0, .int .i64 0, .int .i64 0, .string ⟨#[104, 105]⟩, .slice none 0 0, .int .i64 0, .string ⟨#[98]⟩, .slice none 0 0, .int .i64 0, .int .i64 0, .string ⟨#[]⟩, .slice (some ⟨w.heap.size + 1 + 1 + 1, 0, none⟩) 2 2, .int .i64 0, .string ⟨#[98]⟩, .slice none 0 0, .int .i64 0, .int .i64 0, .string ⟨#[]⟩, .slice none 0 0] 43,
    .cells #[.int .i64 0, .string ⟨#[100, 111, 99]⟩, .slice (some ⟨w.heap.size + 1 + 1 + 1 + 1 + 1, 0, none⟩) 1 1, .int .i64 0, .int .i64 0, .string ⟨#[]⟩, .slice (some ⟨w.heap.size + 1 + 1 + 1 + 1 + 1 + 1, 0, none⟩) 3 3] 43,
    .cells #[.int .i64 0, .string ⟨#[100, 111, 99]⟩, .slice (some ⟨w.heap.size + 1 + 1 + 1 + 1 + 1, 0, none⟩) 1 1, .int .i64 0, .int .i64 0, .string ⟨#[]⟩, .slice (some ⟨w.heap.size + 1 + 1 + 1 + 1 + 1 + 1, 0, none⟩) 3 3, .int .i64 1, .string ⟨#[]⟩, .slice none 0 0, .int .i64 7, .int .i64 1, .string ⟨#[]⟩, .slice none 0 0] 43]

set_option maxRecDepth 100000 in
theorem exF_lies (w : World) : Lies ((exObjs w).foldl World.alloc w) (.slice (some ⟨w.heap.size + 1 + 1 + 1 + 1 + 1 + 1 + 1 + 1, 0, none⟩) 2 2) exF := by
  have h3 := allocs_heap (exObjs w) w 3 _ rfl
  have h5 := allocs_heap (exObjs w) w 5 _ rfl
  have h6 := allocs_heap (exObjs w) w 6 _ rfl
  have h8 := allocs_heap (exObjs w) w 8 _ rfl
  have hz : ((exObjs w).foldl World.alloc w).heap.size = w.heap.size + 9 := allocs_size _ _
  generalize (exObjs w).foldl World.alloc w = W at *
  refine .inr ⟨_, 0, 2, rfl, by decide, by decide, by omega, ?_⟩
  refine ⟨⟨cell_of_block h8 rfl, cell_of_block h8 rfl, ⟨_, cell_of_block h8 rfl, .inr ⟨_, 0, 1, rfl, by decide, by decide, by omega, ?a⟩⟩, cell_of_block h8 rfl, cell_of_block h8 rfl, cell_of_block h8 rfl⟩, ⟨_, cell_of_block h8 rfl, .inr ⟨_, 0, 3, rfl, by decide, by decide, by omega, ?b⟩⟩,
    ⟨⟨cell_of_block h8 rfl, cell_of_block h8 rfl, ⟨_, cell_of_block h8 rfl, .inl ⟨_, _, rfl, rfl⟩⟩, cell_of_block h8 rfl, cell_of_block h8 rfl, cell_of_block h8 rfl⟩, ⟨_, cell_of_block h8 rfl, .inl ⟨_, _, rfl, rfl⟩⟩, trivial⟩⟩
  case a =>
    intro k hk
    obtain rfl : k = 0 := by simp at hk; omega
    exact ⟨cell_of_block h5 rfl, cell_of_block h5 rfl⟩
  case b =>
    refine ⟨⟨cell_of_block h6 rfl, cell_of_block h6 rfl, ⟨_, cell_of_block h6 rfl, .inl ⟨_, _, rfl, rfl⟩⟩, cell_of_block h6 rfl, cell_of_block h6 rfl, cell_of_block h6 rfl⟩, ⟨_, cell_of_block h6 rfl, .inl ⟨_, _, rfl, rfl⟩⟩,
      ⟨⟨cell_of_block h6 rfl, cell_of_block h6 rfl, ⟨_, cell_of_block h6 rfl, .inl ⟨_, _, rfl, rfl⟩⟩, cell_of_block h6 rfl, cell_of_block h6 rfl, cell_of_block h6 rfl⟩, ⟨_, cell_of_block h6 rfl, .inr ⟨_, 0, 2, rfl, by decide, by decide, by omega, ?c⟩⟩,
        ⟨⟨cell_of_block h6 rfl, cell_of_block h6 rfl, ⟨_, cell_of_block h6 rfl, .inl ⟨_, _, rfl, rfl⟩⟩, cell_of_block h6 rfl, cell_of_block h6 rfl, cell_of_block h6 rfl⟩, ⟨_, cell_of_block h6 rfl, .inl ⟨_, _, rfl, rfl⟩⟩, trivial⟩⟩⟩
    refine ⟨⟨cell_of_block h3 rfl, cell_of_block h3 rfl, ⟨_, cell_of_block h3 rfl, .inl ⟨_, _, rfl, rfl⟩⟩, cell_of_block h3 rfl, cell_of_block h3 rfl, cell_of_block h3 rfl⟩, ⟨_, cell_of_block h3 rfl, .inl ⟨_, _, rfl, rfl⟩⟩,
      ⟨⟨cell_of_block h3 rfl, cell_of_block h3 rfl, ⟨_, cell_of_block h3 rfl, .inl ⟨_, _, rfl, rfl⟩⟩, cell_of_block h3 rfl, cell_of_block h3 rfl, cell_of_block h3 rfl⟩, ⟨_, cell_of_block h3 rfl, .inl ⟨_, _, rfl, rfl⟩⟩, trivial⟩⟩

set_option maxRecDepth 100000 in
set_option maxHeartbeats 2000000 in
theorem example_any (w : World) : Calls Tryz.prog 71 #[] w fun e w' => ∃ a, e = .returned (.slice a 2 2) ∧ Lies w' (.slice a 2 2) exF ∧ Below w.heap.size w w' := by
  have HX := Lib.hid (exF_lies w)
  have HB := Lib.hid (allocs_below (exObjs w) w w.heap.size w (Nat.le_refl _) (Below.refl _ _))
  go_enter Tryz.func71, Tryz.ntmps71
  go_wp2_with fail
  go_ret
  exact ⟨_, rfl, HX.out, HB.out⟩
end Go.Proofs.YtcgedpfolloinaaGreat

namespace Go.Proofs.YtcgedpfolloinaaGreat
open Go.RowKit

/-- what Parse gives: a forest, and an error. -/
def parsed (l : List UInt8) : Fo × Int :=
  if 20000 < l.length then (.nil, 8) else
    match readP l with
    | none => (.nil, 1)
    | some f => if foErr f = 0 then (f, 0) else (.nil, foErr f)

set_option maxRecDepth 100000 in
set_option maxHeartbeats 2000000 in
theorem tparse_any (l : List UInt8) (w : World) (hl : l.length ≤ 89000) :
    Calls Tryz.prog 58 #[.string ⟨l.toArray⟩] w fun e w' => ∃ v, e = .returned (.tuple #[v, .int .i64 (parsed l).2]) ∧ LiesF w.heap.size w' v (parsed l).1 ∧ Below w.heap.size w w' := by
  obtain ⟨p, hp⟩ : ∃ p, parsed l = p := ⟨_, rfl⟩
  rw [hp]
  have HP := Lib.hid hp.symm
  by_cases h2 : 20000 < l.length
  · have d : decide ((20000 : Int) < (l.length : Int)) = true := by simp; omega
    have HX := HP.out.trans (if_pos h2)
    subst HX
    clear h2 hp HP
    go_enter Tryz.func58, Tryz.ntmps58
    go_wp2_with fail
    go_ret2
    exact ⟨_, rfl, .inl ⟨_, _, rfl, rfl⟩, Below.refl _ _⟩
  · have d : decide ((20000 : Int) < (l.length : Int)) = false := by simp; omega
    have HX := Lib.hid (HP.out.trans (if_neg h2))
    have R := Lib.hid (read_any l w hl)
    have SM := Lib.hid (fun f => readP_small (f := f) (show l.length ≤ 100000 by omega))
    clear h2 hp
    cases ho : readP l with
    | none =>
      have HY := HX.out.trans (by rw [ho])
      rw [ho] at R
      subst HY
      clear ho SM HX HP
      go_enter Tryz.func58, Tryz.ntmps58
      go_wp2_with fail
      refine R.out.mono ?_
      rintro e w1 ⟨rfl, hb1⟩
      go_wp2_with fail
      go_ret2
      exact ⟨_, rfl, .inl ⟨_, _, rfl, rfl⟩, hb1⟩
    | some f =>
      have SF := SM.out f ho
      rw [ho] at R
      have C := Lib.hid (fun w1 v (hv : LiesF w.heap.size w1 v f) => tcheck_any f v w1 (liesF_lies hv) SF)
      by_cases h0 : foErr f = 0
      · have HY := HX.out.trans (show _ = (f, 0) by rw [ho]; exact if_pos h0)
        subst HY
        rw [h0] at C
        clear ho h0 HX HP SM SF
        go_enter Tryz.func58, Tryz.ntmps58
        go_wp2_with fail
        refine R.out.mono ?_
        rintro e w1 ⟨v, rfl, hv, hb1⟩
        have HV := Lib.hid hv
        have HB := Lib.hid hb1
        have hs1 := hb1.size
        clear hv hb1
        go_wp2_with fail
        refine (C.out w1 v HV.out).mono ?_
        rintro e w2 ⟨rfl, hb2⟩
        have HK := Lib.hid (liesF_keeps HV.out ((Keeps.of_below hb2 : Keeps w.heap.size w1 w2)))
        have HB2 := Lib.hid (HB.out.trans (hb2.mono hs1))
        clear hb2
        go_wp2_with fail
        go_ret2
        exact ⟨v, rfl, HK.out, HB2.out⟩
      · have HY := HX.out.trans (show _ = (Fo.nil, foErr f) by rw [ho]; exact if_neg h0)
        subst HY
        generalize foErr f = ef at *
        have b0 : (ef != 0) = true := by simpa using h0
        clear ho h0 HX HP SM SF
        go_enter Tryz.func58, Tryz.ntmps58
        go_wp2_with fail
        refine R.out.mono ?_
        rintro e w1 ⟨v, rfl, hv, hb1⟩
        have HV := Lib.hid hv
        have HB := Lib.hid hb1
        have hs1 := hb1.size
        clear hv hb1
        go_wp2_with fail
        refine (C.out w1 v HV.out).mono ?_
        rintro e w2 ⟨rfl, hb2⟩
        have HB2 := Lib.hid (HB.out.trans (hb2.mono hs1))
        clear hb2
        go_wp2_with fail
        go_ret2
        exact ⟨_, rfl, .inl ⟨_, _, rfl, rfl⟩, HB2.out⟩

def exText : List UInt8 := [100, 111, 99, 40, 108, 97, 110, 103, 61, 34, 101, 110, 34, 41, 123, 34, 104, 105, 34, 32, 98, 123, 51, 47, 52, 32, 45, 50, 125, 32, 98, 125, 32, 55]
set_option maxRecDepth 100000 in
theorem read_ex : readP exText = some exF := by kernel_rfl
set_option maxRecDepth 100000 in
theorem parsed_ex : parsed exText = (exF, 0) := by
  unfold parsed
  rw [if_neg (by decide), read_ex]
  exact if_pos (by decide +kernel)
end Go.Proofs.YtcgedpfolloinaaGreat

namespace Go.Proofs.YtcgedpfolloinaaGreat
open Go.RowKit

theorem toldS_len {n d : Int} (h : chk n d = 0) : (toldS n d).length ≤ 22 := by
  obtain ⟨f1, f2, f3, f4⟩ := fit_of_chk h
  have h1 := numText1_len (n := (n.natAbs : Int)) (if d = 1 then [] else 47 :: numText d 1 []) (by omega)
  have h2 := numText1_len (n := d) [] (by omega)
  have h3 := signText_len n (numText (n.natAbs : Int) 1 (if d = 1 then [] else 47 :: numText d 1 []))
  have h4 : (if d = 1 then ([] : List UInt8) else 47 :: numText d 1 []).length ≤ 11 := by split <;> simp at h2 ⊢; omega
  unfold toldS
  omega
theorem printable_ok {l : List UInt8} {most : Int} (h : printableB l most = true) : (∀ c ∈ l, c.toNat < 128) ∧ (l.length : Int) ≤ most := by
  unfold printableB at h
  simp only [Bool.and_eq_true, decide_eq_true_eq, List.all_eq_true] at h
  exact ⟨fun c hc => by have := h.1 c hc; omega, h.2⟩
theorem named_ok {l : List UInt8} (h : namedB l = true) : l.length ≤ 8 := by
  unfold namedB at h
  simp only [Bool.and_eq_true, decide_eq_true_eq] at h
  omega
theorem attrs_ok : ∀ (ats : List (List UInt8 × List UInt8)) (before : List UInt8), attrsErr before ats = 0 → ∀ q ∈ ats, q.1.length ≤ 8 ∧ q.2.length ≤ 12 ∧ ∀ c ∈ q.2, c.toNat < 128
  | [], _, _, q, hq => by simp at hq
  | (n, v) :: r, before, h, q, hq => by
    simp only [attrsErr] at h
    by_cases h1 : namedB n = false
    · rw [if_pos h1] at h; cases h
    · rw [if_neg h1] at h
      by_cases h2 : leB n before = true
      · rw [if_pos h2] at h; cases h
      · rw [if_neg h2] at h
        by_cases h3 : printableB v 12 = false
        · rw [if_pos h3] at h; cases h
        · rw [if_neg h3] at h
          rcases List.mem_cons.1 hq with rfl | hq
          · have := printable_ok (by simpa using h3 : printableB v 12 = true)
            exact ⟨named_ok (by simpa using h1), by have := this.2; show v.length ≤ 12; omega, this.1⟩
          · exact attrs_ok r n h q hq
theorem quoQ_le (s : List UInt8) : (quoQ s).length ≤ 2 * s.length + 2 := by have := escQ_len s; simp [quoQ]; omega
theorem atsQ_le : ∀ (ats : List (List UInt8 × List UInt8)) (m : UInt8), (∀ q ∈ ats, q.1.length ≤ 8 ∧ q.2.length ≤ 12) → (atsQ m ats).length ≤ 36 * ats.length
  | [], m, _ => by simp [atsQ]
  | q :: t, m, h => by
    have h1 := atsQ_le t 44 (fun q hq => h q (by simp [hq]))
    have h2 := h q (by simp)
    have h3 := quoQ_le q.2
    simp only [atsQ, List.length_cons, List.length_append]
    omega
theorem head_ok {h : Hd} (e : headErr h = 0) : HdAsc h ∧ ∀ ks, (treeQ h ks).length ≤ 119 + (foQ true ks).length := by
  unfold headErr at e
  by_cases h0 : strayB h = true
  · rw [if_pos h0] at e; cases e
  rw [if_neg h0] at e
  unfold strayB at h0
  by_cases h1 : h.k = 1
  · rw [if_pos h1] at e
    simp [h1] at h0
    refine ⟨⟨by rw [h0.1]; simp, by rw [h0.2.2]; simp⟩, fun ks => ?_⟩
    have := toldS_len e
    unfold treeQ printE
    rw [if_pos h1, if_pos e]; omega
  · rw [if_neg h1] at e
    by_cases h2 : h.k = 2
    · rw [if_pos h2] at e
      simp [h2] at h0
      have hp : printableB h.x 24 = true := by
        by_cases hp : printableB h.x 24 = true
        · exact hp
        · rw [if_neg hp] at e; cases e
      have := printable_ok hp
      refine ⟨⟨this.1, by rw [h0.2.2]; simp⟩, fun ks => ?_⟩
      have := quoQ_le h.x
      unfold treeQ
      rw [if_neg h1, if_pos h2]; omega
    · rw [if_neg h2] at e
      by_cases h3 : h.k = 0
      · simp [h3] at h0
        unfold elemErr at e
        by_cases g1 : namedB h.l = false
        · rw [if_pos g1] at e; cases e
        rw [if_neg g1] at e
        by_cases g2 : 3 < h.ats.length
        · rw [if_pos g2] at e; cases e
        rw [if_neg g2] at e
        have ha := attrs_ok _ _ e
        refine ⟨⟨by rw [h0.2]; simp, fun q hq => (ha q hq).2.2⟩, fun ks => ?_⟩
        have hl := named_ok (by simpa using g1 : namedB h.l = true)
        have hb := atsQ_le h.ats 40 (fun q hq => ⟨(ha q hq).1, (ha q hq).2.1⟩)
        have hq : (attrsQ h.ats).length ≤ 109 := by unfold attrsQ; split <;> simp; omega
        unfold treeQ elemQ
        rw [if_neg h1, if_neg h2]
        simp only [List.length_append]
        split <;> simp <;> omega
      · simp [h1, h2, h3] at h0
theorem fo_ok : ∀ f : Fo, headsErr f = 0 → foAsc f ∧ ∀ b, (foQ b f).length ≤ 120 * f.size
  | .nil, _ => ⟨trivial, fun b => by simp [foQ, Fo.size]⟩
  | .cons h ks r, e => by
    unfold headsErr at e
    by_cases h1 : headErr h ≠ 0
    · rw [if_pos h1] at e; exact absurd e h1
    rw [if_neg h1] at e
    by_cases h2 : h.k ≠ 0 ∧ ks.len ≠ 0
    · rw [if_pos h2] at e; cases e
    rw [if_neg h2] at e
    by_cases h3 : headsErr ks ≠ 0
    · rw [if_pos h3] at e; exact absurd e h3
    rw [if_neg h3] at e
    have hh := head_ok (h := h) (by simpa using h1)
    have hk := fo_ok ks (by simpa using h3)
    have hr := fo_ok r e
    refine ⟨⟨hh.1, hk.1, hr.1⟩, fun b => ?_⟩
    have a1 := hh.2 ks
    have a2 := hk.2 true
    have a3 := hr.2 false
    simp only [foQ_cons, List.length_append, Fo.size]
    have : (if b = true then ([] : List UInt8) else [32]).length ≤ 1 := by split <;> simp
    omega
theorem valid_ok {f : Fo} (h : foErr f = 0) : foAsc f ∧ (foQ true f).length ≤ 48000 := by
  unfold foErr at h
  by_cases h1 : 400 < f.size
  · rw [if_pos h1] at h; cases h
  rw [if_neg h1] at h
  by_cases h2 : 40 < f.deep
  · rw [if_pos h2] at h; cases h
  rw [if_neg h2] at h
  have := fo_ok f h
  exact ⟨this.1, by have := this.2 true; omega⟩
theorem print_tree (f : Fo) (v : Value) (w : World) (hl : Lies w v f) (hs : Small f) :
    Calls Tryz.prog 56 #[v] w fun e w' => e = .returned (.tuple #[.string ⟨(printF f).1.toArray⟩, .int .i64 (printF f).2]) ∧ Below w.heap.size w w' :=
  tprint_all f v w hl hs (fun h => ⟨(valid_ok h).1, by have := (valid_ok h).2; omega⟩)
end Go.Proofs.YtcgedpfolloinaaGreat

namespace Go.Proofs.YtcgedpfolloinaaGreat
open Go.RowKit

def hdVal (h : Hd) (aa : Option Addr) (ca : Nat) : Value := .agg #[.int .i64 h.k, .string ⟨h.l.toArray⟩, .slice aa h.ats.length ca, .int .i64 h.n, .int .i64 h.d, .string ⟨h.x.toArray⟩]

set_option maxRecDepth 100000 in
set_option maxHeartbeats 2000000 in
theorem sameHead_refl (h : Hd) (aa : Option Addr) (ca : Nat) (ab : Option Addr) (cb : Nat) (w : World) (ha : AttrsLie w (.slice aa h.ats.length ca) h.ats) (hb : AttrsLie w (.slice ab h.ats.length cb) h.ats) :
    Calls Tryz.prog 63 #[hdVal h aa ca, hdVal h ab cb] w fun e w' => e = .returned (.bool true) ∧ Below w.heap.size w w' := by
  have HA := Lib.hid ha
  have HB := Lib.hid hb
  have hal : h.ats.length ≤ 4398046510976 := by
    rcases ha with ⟨_, _, _, h0⟩ | ⟨_, _, _, _, _, h0, _⟩
    · rw [h0]; simp
    · exact h0
  clear ha hb
  unfold hdVal
  go_enter Tryz.func63, Tryz.ntmps63
  go_wp2_with fail
  go_loopw [5] (fun i wr => ∃ k : Nat, i = .int .i64 k ∧ k ≤ h.ats.length ∧ wr.cell? ⟨w.heap.size, 2, none⟩ = some (.slice aa h.ats.length ca) ∧ wr.cell? ⟨w.heap.size + 1, 2, none⟩ = some (.slice ab h.ats.length cb) ∧ w.heap.size + 1 < wr.heap.size ∧ Below w.heap.size w wr) (fun i _ => h.ats.length - (intOf i).toNat)
  case atStart => exact ⟨0, rfl, Nat.zero_le _, by simp [go_sem], by simp [go_sem], by simp, by ((repeat' (first | exact Below.refl _ _ | assumption | refine Below.setCell ?_ ?_ _ | refine bdrewN ?_ _ | refine Below.drew ?_ | refine Below.alloc ?_ ?_ _ | refine bbehind ?_ (by assumption) ?_)); all_goals first | (simp; done) | (simp; omega) | omega)⟩
  case round =>
    obtain ⟨k, rfl, hk, c1, c2, hsz, hbw⟩ := hrel
    have hz0 : w.heap.size < wr.heap.size := by omega
    by_cases hlt : k < h.ats.length
    · have dk : decide (k < h.ats.length) = true := by simpa using hlt
      obtain ⟨ba, oa, capa, hs, -, -, hba, hca⟩ := attrs_row HA.out (by omega)
      simp only [Value.slice.injEq] at hs
      obtain ⟨rfl, -, rfl⟩ := hs
      obtain ⟨bb, ob, capb, hs, -, -, hbb, hcb⟩ := attrs_row HB.out (by omega)
      simp only [Value.slice.injEq] at hs
      obtain ⟨rfl, -, rfl⟩ := hs
      obtain ⟨q1, q2⟩ := hca k hlt
      obtain ⟨q3, q4⟩ := hcb k hlt
      have q1 := (hbw.cell (p := ⟨ba, oa + k * 2, none⟩) hba).trans q1
      have q2 := (hbw.cell (p := ⟨ba, oa + k * 2 + 1, none⟩) hba).trans q2
      have q3 := (hbw.cell (p := ⟨bb, ob + k * 2, none⟩) hbb).trans q3
      have q4 := (hbw.cell (p := ⟨bb, ob + k * 2 + 1, none⟩) hbb).trans q4
      have k1 : ba < wr.heap.size := by omega
      have k2 : bb < wr.heap.size := by omega
      clear hca hcb
      generalize (h.ats.getD k ([], [])).1 = nm at *
      generalize (h.ats.getD k ([], [])).2 = vl at *
      go_wp2_with fail
      refine wp_region_quiet_all (fun w' => ∃ x : Lower _, w' = x.val) (by kernel_rfl) (by kernel_rfl) ⟨⟨_, (Below.refl _ _).drew⟩, rfl⟩ ?_
      repeat (go_big_quiet_step (fail))
      refine wpQuiet_nil ?_
      intro w2 hx2
      obtain ⟨x2, hx2⟩ := hx2
      have hb2 := x2.prop
      rw [← hx2] at hb2
      clear hx2 x2
      obtain ⟨hc2, hf2⟩ := bcell hb2
      have hs2 := hb2.size
      try simp at hs2
      try have hz20 : w.heap.size < w2.heap.size := by omega
      try have hz21 : w.heap.size + 1 < w2.heap.size := by omega
      try have hz22 : w.heap.size + 1 + 1 < w2.heap.size := by omega
      try have hz23 : w.heap.size + 1 + 1 + 1 < w2.heap.size := by omega
      try have hz24 : w.heap.size + 1 + 1 + 1 + 1 < w2.heap.size := by omega
      try have hz25 : w.heap.size + 1 + 1 + 1 + 1 + 1 < w2.heap.size := by omega
      try have hy1_2 : w1.heap.size < w2.heap.size := by omega
      go_wp2_with fail
      go_roundw
      case rel => exact ⟨k + 1, by go_num, by omega, by rw [hc2 _ _ hz0]; exact c1, by rw [hc2 _ _ hsz]; exact c2, by omega, hbw.trans (hb2.mono hbw.size)⟩
      case measure => simp [intOf]; omega
    · have dk : decide (k < h.ats.length) = false := by simpa using hlt
      go_wp2_with fail
      go_ret
      exact ⟨rfl, hbw⟩

set_option maxRecDepth 100000 in
set_option maxHeartbeats 2000000 in
theorem same_of (f : Fo) (v u : Value) (w : World) (hl : Lies w v f) (hg : Lies w u f)
    (HK : ∀ k h ks, k < f.len → f.drop k = .cons h ks (f.drop (k + 1)) → ∀ v u w, Lies w v ks → Lies w u ks → Calls Tryz.prog 35 #[v, u] w fun e w' => e = .returned (.bool true) ∧ Below w.heap.size w w') :
    Calls Tryz.prog 35 #[v, u] w fun e w' => e = .returned (.bool true) ∧ Below w.heap.size w w' := by
  have HL := Lib.hid hl
  have HG := Lib.hid hg
  have HKK := Lib.hid HK
  have hfl := lies_len hl
  obtain ⟨a, cap, rfl⟩ := lies_form hl
  obtain ⟨a', cap', rfl⟩ := lies_form hg
  clear hl hg HK
  go_enter Tryz.func35, Tryz.ntmps35
  go_wp2_with fail
  go_loopw [5] (fun i wr => ∃ k : Nat, i = .int .i64 k ∧ k ≤ f.len ∧ Below w.heap.size w wr) (fun i _ => f.len - (intOf i).toNat)
  case atStart => exact ⟨0, rfl, Nat.zero_le _, Below.refl _ _⟩
  case round =>
    obtain ⟨k, rfl, hk, hbw⟩ := hrel
    have hsz := hbw.size
    by_cases hlt : k < f.len
    · have dk : decide (k < f.len) = true := by simpa using hlt
      obtain ⟨bf, of, cp, hs, -, -, hbf, hrow⟩ := lies_row HL.out (by omega)
      simp only [Value.slice.injEq] at hs
      obtain ⟨rfl, -, rfl⟩ := hs
      obtain ⟨bg, og, cp', hs, -, -, hbg, hrow'⟩ := lies_row HG.out (by omega)
      simp only [Value.slice.injEq] at hs
      obtain ⟨rfl, -, rfl⟩ := hs
      obtain ⟨hd, ks, e, ⟨qa0, qa1, ⟨va, qa2, ha⟩, qa3, qa4, qa5⟩, vk, qa6, hlk⟩ := row_get hrow hlt
      obtain ⟨hd', ks', e', ⟨qb0, qb1, ⟨vb, qb2, hb⟩, qb3, qb4, qb5⟩, vl, qb6, hlk'⟩ := row_get hrow' hlt
      rw [e] at e'
      cases e'
      obtain ⟨aa, ca, rfl⟩ := attrs_form ha
      obtain ⟨ab, cb, rfl⟩ := attrs_form hb
      obtain ⟨ak, ck, rfl⟩ := lies_form hlk
      obtain ⟨al, cl, rfl⟩ := lies_form hlk'
      have ra0 := (hbw.cell (p := ⟨bf, of + k * 7, none⟩) hbf).trans qa0
      have ra1 := (hbw.cell (p := ⟨bf, of + k * 7 + 1, none⟩) hbf).trans qa1
      have ra2 := (hbw.cell (p := ⟨bf, of + k * 7 + 2, none⟩) hbf).trans qa2
      have ra3 := (hbw.cell (p := ⟨bf, of + k * 7 + 3, none⟩) hbf).trans qa3
      have ra4 := (hbw.cell (p := ⟨bf, of + k * 7 + 4, none⟩) hbf).trans qa4
      have ra5 := (hbw.cell (p := ⟨bf, of + k * 7 + 5, none⟩) hbf).trans qa5
      have ra6 := (hbw.cell (p := ⟨bf, of + k * 7 + 6, none⟩) hbf).trans qa6
      have rb0 := (hbw.cell (p := ⟨bg, og + k * 7, none⟩) hbg).trans qb0
      have rb1 := (hbw.cell (p := ⟨bg, og + k * 7 + 1, none⟩) hbg).trans qb1
      have rb2 := (hbw.cell (p := ⟨bg, og + k * 7 + 2, none⟩) hbg).trans qb2
      have rb3 := (hbw.cell (p := ⟨bg, og + k * 7 + 3, none⟩) hbg).trans qb3
      have rb4 := (hbw.cell (p := ⟨bg, og + k * 7 + 4, none⟩) hbg).trans qb4
      have rb5 := (hbw.cell (p := ⟨bg, og + k * 7 + 5, none⟩) hbg).trans qb5
      have rb6 := (hbw.cell (p := ⟨bg, og + k * 7 + 6, none⟩) hbg).trans qb6
      have k1 : bf < wr.heap.size := by omega
      have k2 : bg < wr.heap.size := by omega
      have SH := Lib.hid (fun (x : Lower wr) => calls_lower x (sameHead_refl hd aa ca ab cb x.val (attrs_below (attrs_below ha hbw) x.prop) (attrs_below (attrs_below hb hbw) x.prop)))
      have SK := Lib.hid (fun (x : Lower wr) => calls_lower x (HKK.out k hd ks hlt e _ _ x.val (lies_below (lies_below hlk hbw) x.prop) (lies_below (lies_below hlk' hbw) x.prop)))
      unfold hdVal at SH
      clear e hrow hrow' ha hb hlk hlk' qa0 qa1 qa2 qa3 qa4 qa5 qa6 qb0 qb1 qb2 qb3 qb4 qb5 qb6
      go_wp2_with fail
      refine wp_region_quiet_all (fun w' => ∃ x : Lower _, w' = x.val) (by kernel_rfl) (by kernel_rfl) ⟨⟨_, (Below.refl _ _).drew⟩, rfl⟩ ?_
      repeat (go_big_quiet_step (first | (go_at_call 63; exact SH.out _) | (go_at_call 35; exact SK.out _)))
      refine wpQuiet_nil ?_
      intro w2 hx2
      obtain ⟨x2, hx2⟩ := hx2
      have hb2 := x2.prop
      rw [← hx2] at hb2
      clear hx2 x2
      obtain ⟨hc2, hf2⟩ := bcell hb2
      have hs2 := hb2.size
      try simp at hs2
      try have hz20 : w.heap.size < w2.heap.size := by omega
      try have hz21 : w.heap.size + 1 < w2.heap.size := by omega
      try have hz22 : w.heap.size + 1 + 1 < w2.heap.size := by omega
      try have hz23 : w.heap.size + 1 + 1 + 1 < w2.heap.size := by omega
      try have hz24 : w.heap.size + 1 + 1 + 1 + 1 < w2.heap.size := by omega
      try have hz25 : w.heap.size + 1 + 1 + 1 + 1 + 1 < w2.heap.size := by omega
      try have hy1_2 : w1.heap.size < w2.heap.size := by omega
      go_wp2_with fail
      go_roundw
      case rel => exact ⟨k + 1, by go_num, by omega, hbw.trans (hb2.mono hbw.size)⟩
      case measure => simp [intOf]; omega
    · have dk : decide (k < f.len) = false := by simpa using hlt
      go_wp2_with fail
      go_ret
      exact ⟨rfl, hbw⟩
theorem same_refl : ∀ (N : Nat) (f : Fo), f.size ≤ N → ∀ (v u : Value) (w : World), Lies w v f → Lies w u f → Calls Tryz.prog 35 #[v, u] w fun e w' => e = .returned (.bool true) ∧ Below w.heap.size w w' := by
  intro N
  induction N with
  | zero =>
    intro f hf v u w hl hg
    exact same_of f v u w hl hg (fun k h ks hk => by have := Fo.len_le_size f; omega)
  | succ N ih =>
    intro f hf v u w hl hg
    refine same_of f v u w hl hg (fun k h ks hk e v u w hl hg => ih ks ?_ v u w hl hg)
    have := Fo.size_app (f.take k) (f.drop k)
    rw [Fo.take_app_drop, e] at this
    simp only [Fo.size] at this
    omega
end Go.Proofs.YtcgedpfolloinaaGreat

namespace Go.Proofs.YtcgedpfolloinaaGreat
open Go.RowKit

theorem ints_three {W : World} {b : Nat} {T : TypeId} {x y z : Int} (h : W.heap[b]? = some (.cells #[.int .i64 x, .int .i64 y, .int .i64 z] T (0, 0))) (hb : b < W.heap.size) : IntsLie W (.slice (some ⟨b, 0, none⟩) 3 3) [x, y, z] := by
  refine .inr ⟨b, 0, 3, rfl, by simp, hb, fun k hk => ?_⟩
  match k, hk with
  | 0, _ => exact cell_of_block h rfl
  | 1, _ => exact cell_of_block h rfl
  | 2, _ => exact cell_of_block h rfl
theorem ex_small : Small exF := readP_small (l := exText) (by decide) read_ex
theorem ex_size : sizeT exF = (7, 0) := by decide +kernel
theorem ex_at : atErr exF [0, 1, 1] = 0 := by decide +kernel
theorem ex_place : placeF exF [0, 1, 1] = some (numHd (-2) 1, .nil) := by kernel_rfl
theorem ex_print : printF exF = (exText, 0) := by decide +kernel
theorem ex_next : nextF exF [0, 1, 1] = ([0, 2], true, 0) := by decide +kernel
theorem ex_alike : alikeB [0, 2] [0, 2] = true := by decide

set_option maxRecDepth 100000 in
set_option maxHeartbeats 8000000 in
theorem grown_any (w : World) : Calls Tryz.prog 16 #[] w fun e w' => e = .returned (.bool true) ∧ Below w.heap.size w w' := by
  have EX := Lib.hid (fun w => example_any w)
  have SZ := Lib.hid (fun v W (h : Lies W v exF) => tsize_any exF v W h ex_small)
  have AT := Lib.hid (fun v u W (h : Lies W v exF) (hp : IntsLie W u [0, 1, 1]) => at_any exF [0, 1, 1] v u W h ex_small hp (by decide))
  have PR := Lib.hid (fun v W (h : Lies W v exF) => print_tree exF v W h ex_small)
  have NX := Lib.hid (fun v u W (h : Lies W v exF) (hp : IntsLie W u [0, 1, 1]) => next_any exF [0, 1, 1] v u W h ex_small hp (by decide))
  have PA := Lib.hid (fun W => tparse_any exText W (by decide))
  have AL := Lib.hid (fun v u W (h1 : IntsLie W v [0, 2]) (h2 : IntsLie W u [0, 2]) => alike_any v u [0, 2] [0, 2] W h1 h2 (by decide) (by decide))
  have SR := Lib.hid (fun v u W (h1 : Lies W v exF) (h2 : Lies W u exF) => same_refl 100000 exF ex_small.size v u W h1 h2)
  rw [ex_size] at SZ
  rw [ex_print] at PR
  rw [ex_next] at NX
  rw [ex_alike] at AL
  simp only [parsed_ex] at PA
  have exT : exText = [100, 111, 99, 40, 108, 97, 110, 103, 61, 34, 101, 110, 34, 41, 123, 34, 104, 105, 34, 32, 98, 123, 51, 47, 52, 32, 45, 50, 125, 32, 98, 125, 32, 55] := rfl
  go_enter Tryz.func16, Tryz.ntmps16
  go_wp2_with fail
  refine (EX.out _).mono ?_
  rintro e w1 ⟨a, rfl, hl1, hb1⟩
  have B1 := Lib.hid hb1
  have L1 := Lib.hid hl1
  have hs1 := hb1.size
  clear hb1 hl1
  go_wp2_with fail
  refine (SZ.out _ _ L1.out).mono ?_
  rintro e w2 ⟨rfl, hb2⟩
  have L2 := Lib.hid (lies_below L1.out hb2)
  have B2 := Lib.hid (B1.out.trans (hb2.mono hs1))
  clear hb2
  go_wp2_with fail
  have I3 : IntsLie (w2.alloc (.cells #[.int .i64 0, .int .i64 1, .int .i64 1] 3)) (.slice (some ⟨w2.heap.size, 0, none⟩) 3 3) [0, 1, 1] := ints_three (World.alloc_heap_new _ _) (by simp)
  have L2' := lies_below L2.out ((Below.refl _ w2).alloc (Nat.le_refl _) (.cells #[.int .i64 0, .int .i64 1, .int .i64 1] 3))
  have B2' : Below w.heap.size w (w2.alloc (.cells #[.int .i64 0, .int .i64 1, .int .i64 1] 3)) := B2.out.alloc B2.out.size _
  generalize w2.alloc (.cells #[.int .i64 0, .int .i64 1, .int .i64 1] 3) = W3 at *
  generalize (Value.slice (some ⟨w2.heap.size, 0, none⟩) 3 3) = u3 at *
  refine (AT.out _ _ _ L2' I3).mono ?_
  rintro e w3 ⟨h, ks, aa, ca, ak, ck, rfl, _, _, hor, hb3⟩
  rw [ex_at, ex_place] at hor
  obtain ⟨rfl, rfl⟩ : h = numHd (-2) 1 ∧ ks = .nil := by
    rcases hor with ⟨_, h1⟩ | ⟨h1, _⟩
    · have := Prod.mk.inj (Option.some.inj h1); exact ⟨this.1.symm, this.2.symm⟩
    · exact absurd rfl h1
  have L3 := Lib.hid (lies_below L2' hb3)
  have B3 := Lib.hid (B2'.trans (hb3.mono B2'.size))
  rw [ex_at]
  clear hor hb3 L2' I3 B2' L2 B2
  unfold aggOf numHd
  go_wp2_with fail
  generalize hW4 : w3.alloc _ = W4
  have K4 := Lib.hid (show W4.heap[w3.heap.size]? = some (.cells #[.int .i64 1, .string ⟨#[]⟩, .slice aa 0 ca, .int .i64 (-2), .int .i64 1, .string ⟨#[]⟩, .slice ak 0 ck] 43 (0, 0)) by rw [← hW4]; exact World.alloc_heap_new _ _)
  have hb4 : Below w3.heap.size w3 W4 := by rw [← hW4]; exact (Below.refl _ w3).alloc (Nat.le_refl _) _
  have L4 := Lib.hid (lies_below L3.out hb4)
  have B4 := Lib.hid (B3.out.trans (hb4.mono B3.out.size))
  generalize w3.heap.size = T4 at *
  clear hb4 hW4
  refine (PR.out _ _ L4.out).mono ?_
  rintro e w5 ⟨rfl, hb5⟩
  have h4 := (Array.getElem?_eq_some_iff.1 K4.out).1
  have K5 := Lib.hid ((hb5.block _ h4).trans K4.out)
  have L5 := Lib.hid (lies_below L4.out hb5)
  have B5 := Lib.hid (B4.out.trans (hb5.mono B4.out.size))
  have hs5 := hb5.size
  clear hb5 K4 L4 B4
  go_wp2_with fail
  have I6 : IntsLie (w5.alloc (.cells #[.int .i64 0, .int .i64 1, .int .i64 1] 3)) (.slice (some ⟨w5.heap.size, 0, none⟩) 3 3) [0, 1, 1] := ints_three (World.alloc_heap_new _ _) (by simp)
  have hb6 : Below w5.heap.size w5 (w5.alloc (.cells #[.int .i64 0, .int .i64 1, .int .i64 1] 3)) := (Below.refl _ w5).alloc (Nat.le_refl _) _
  have L6 := lies_below L5.out hb6
  have B6 := B5.out.trans (hb6.mono B5.out.size)
  have K6 := (hb6.block T4 (by omega)).trans K5.out
  have hs6 := hb6.size
  generalize w5.alloc (.cells #[.int .i64 0, .int .i64 1, .int .i64 1] 3) = W6 at *
  generalize (Value.slice (some ⟨w5.heap.size, 0, none⟩) 3 3) = u6 at *
  refine (NX.out _ _ _ L6 I6).mono ?_
  rintro e w7 ⟨a7, c7, rfl, hi7, hb7⟩
  have I7 := Lib.hid hi7
  have K7 := Lib.hid ((hb7.block T4 (by omega)).trans K6)
  have L7 := Lib.hid (lies_below L6 hb7)
  have B7 := Lib.hid (B6.trans (hb7.mono B6.size))
  have hs7 := hb7.size
  clear hb7 hb6 K6 L6 B6 I6 hi7
  simp only
  go_wp2_with fail
  refine (PA.out _).mono ?_
  rintro e w8 ⟨v8, rfl, hv8, hb8⟩
  obtain ⟨a8, c8, rfl⟩ := liesF_form hv8
  have I8 := Lib.hid (intsF_keeps I7.out (Keeps.of_below hb8))
  have V8 := Lib.hid (liesF_lies hv8)
  have K8 := (hb8.block T4 (by omega)).trans K7.out
  have L8 := Lib.hid (lies_below L7.out hb8)
  have B8 := Lib.hid (B7.out.trans (hb8.mono B7.out.size))
  have hs8 := hb8.size
  have c3 : w8.cell? ⟨T4, 3, none⟩ = some (.int .i64 (-2)) := cell_of_block K8 rfl
  have c4 : w8.cell? ⟨T4, 4, none⟩ = some (.int .i64 1) := cell_of_block K8 rfl
  clear hb8 hv8 K8 I7 L7 K7 B7
  go_wp2_with fail
  have I9 : IntsLie (w8.alloc (.cells #[.int .i64 0, .int .i64 2] 3)) (.slice (some ⟨w8.heap.size, 0, none⟩) 2 2) [0, 2] := ints_pair (World.alloc_heap_new _ _) (by simp)
  have hb9 : Below w8.heap.size w8 (w8.alloc (.cells #[.int .i64 0, .int .i64 2] 3)) := (Below.refl _ w8).alloc (Nat.le_refl _) _
  have J9 := ints_below (intsF_lies I8.out) hb9
  have L9 := lies_below L8.out hb9
  have V9 := lies_below V8.out hb9
  have B9 := B8.out.trans (hb9.mono B8.out.size)
  generalize w8.alloc (.cells #[.int .i64 0, .int .i64 2] 3) = W9 at *
  generalize (Value.slice (some ⟨w8.heap.size, 0, none⟩) 2 2) = u9 at *
  refine (AL.out _ _ _ J9 I9).mono ?_
  rintro e w10 ⟨rfl, hb10⟩
  have L10 := Lib.hid (lies_below L9 hb10)
  have V10 := Lib.hid (lies_below V9 hb10)
  have B10 := Lib.hid (B9.trans (hb10.mono B9.size))
  clear hb10 hb9 J9 I9 L9 V9 B9
  go_wp2_with fail
  refine (SR.out _ _ _ L10.out V10.out).mono ?_
  rintro e w11 ⟨rfl, hb11⟩
  have B11 := Lib.hid (B10.out.trans (hb11.mono B10.out.size))
  clear hb11
  go_wp2_with fail
  go_ret
  exact ⟨rfl, B11.out⟩
end Go.Proofs.YtcgedpfolloinaaGreat

namespace Go.Proofs.YtcgedpfolloinaaGreat
open Go.RowKit

def fitB (f : Fo) : Bool := !great f && decide (foErr f = 0)
set_option maxRecDepth 100000 in
set_option maxHeartbeats 1000000 in
theorem fit_any (f : Fo) (v : Value) (w : World) (hl : Lies w v f) : Calls Tryz.prog 60 #[v] w fun e w' => e = .returned (.bool (fitB f)) ∧ Below w.heap.size w w' := by
  have GF := Lib.hid (great_any f.size f v w (Nat.le_refl _) hl)
  cases hg : great f with
  | true =>
    rw [hg] at GF
    have HX := Lib.hid (show fitB f = false by unfold fitB; rw [hg]; rfl)
    rw [HX.out]
    clear hl
    go_enter Tryz.func60, Tryz.ntmps60
    go_wp2_with fail
    refine GF.out.mono ?_
    rintro e w1 ⟨rfl, hb1⟩
    go_wp2_with fail
    go_ret
    exact ⟨rfl, hb1⟩
  | false =>
    rw [hg] at GF
    have QF := Lib.hid (fun w1 (hw : Below w.heap.size w w1) => qcheck_any f v w1 (lies_below hl hw) (small_lies hl hg))
    by_cases h0 : foErr f = 0
    · have HX := Lib.hid (show fitB f = true by unfold fitB; rw [hg, h0]; rfl)
      rw [HX.out]
      rw [h0] at QF
      clear hl h0
      go_enter Tryz.func60, Tryz.ntmps60
      go_wp2_with fail
      refine GF.out.mono ?_
      rintro e w1 ⟨rfl, hb1⟩
      go_wp2_with fail
      refine (QF.out _ hb1).mono ?_
      rintro e w2 ⟨rfl, hb2⟩
      go_wp2_with fail
      go_ret
      exact ⟨rfl, hb1.trans (hb2.mono hb1.size)⟩
    · have HX := Lib.hid (show fitB f = false by unfold fitB; rw [hg]; simp [h0])
      rw [HX.out]
      generalize foErr f = E at *
      have b0 : (E == 0) = false := by simpa using h0
      clear hl h0
      go_enter Tryz.func60, Tryz.ntmps60
      go_wp2_with fail
      refine GF.out.mono ?_
      rintro e w1 ⟨rfl, hb1⟩
      go_wp2_with fail
      refine (QF.out _ hb1).mono ?_
      rintro e w2 ⟨rfl, hb2⟩
      go_wp2_with fail
      go_ret
      exact ⟨rfl, hb1.trans (hb2.mono hb1.size)⟩
theorem fit_parts {f : Fo} (h : fitB f = true) : great f = false ∧ foErr f = 0 := by
  unfold fitB at h
  simpa using h
end Go.Proofs.YtcgedpfolloinaaGreat

namespace Go.Proofs.YtcgedpfolloinaaGreat
open Go.RowKit

theorem seq_place : ∀ {f : Fo} {pre : List Nat} {i : Nat} {x : Vis}, x ∈ seqAt pre i f → ∃ j t, x.p = pre ++ (i + j) :: t ∧ placeF f (pathInts (j :: t)) = some (x.h, x.ks)
  | .nil, _, _, _, h => by cases h
  | .cons h0 k0 r0, pre, i, x, h => by
    simp only [seqAt, List.mem_cons, List.mem_append] at h
    rcases h with rfl | h | h
    · exact ⟨0, [], rfl, rfl⟩
    · obtain ⟨j, t, e, hp⟩ := seq_place h
      refine ⟨0, j :: t, by rw [e]; simp, ?_⟩
      have : placeF (.cons h0 k0 r0) (pathInts (0 :: j :: t)) = placeF k0 (pathInts (j :: t)) := by
        simp [placeF, Fo.drop]
      rw [this, hp]
    · obtain ⟨j, t, e, hp⟩ := seq_place h
      refine ⟨j + 1, t, by rw [e]; simp; omega, ?_⟩
      rw [← hp]
      have a1 : ¬ ((j : Int) + 1 < 0) := by omega
      have a2 : ¬ ((j : Int) < 0) := by omega
      have a3 : ((j : Int) + 1).toNat = j + 1 := by omega
      simp only [List.map_cons, placeF, a1, a2, if_false, Int.toNat_natCast, a3, Fo.drop, Int.natCast_add, Int.natCast_one]
theorem place_at {f : Fo} {x : Vis} (hx : x ∈ seqAt [] 0 f) : placeF f (pathInts x.p) = some (x.h, x.ks) := by
  obtain ⟨j, t, e, hp⟩ := seq_place hx
  rw [e]
  simpa using hp
theorem at_val {f : Fo} (h : foErr f = 0) {x : Vis} (hx : x ∈ seqAt [] 0 f) : atErr f (pathInts x.p) = 0 := by
  have h1 := place_at hx
  have h2 : pathInts x.p ≠ [] := by simpa using path_ne hx
  unfold atErr placeErr
  rw [if_neg h2, h1, h]; rfl
end Go.Proofs.YtcgedpfolloinaaGreat

namespace Go.Proofs.YtcgedpfolloinaaGreat
open Go.RowKit

theorem PathsF.below {B : Nat} {W W' : World} {v : Value} {ps : List (List Nat)} (h : PathsF B W v ps) (k : Below W.heap.size W W') : PathsF B W' v ps := h.keeps (Keeps.of_below k)
/-- the k-th path of a row of paths. -/
theorem PathsF.at {B : Nat} {W : World} {a : Option Addr} {c : Nat} {ps : List (List Nat)} (h : PathsF B W (.slice a ps.length c) ps) (h0 : 0 < ps.length) : ∃ b, a = some ⟨b, 0, none⟩ ∧ ps.length ≤ c ∧ b < W.heap.size ∧
    ∀ k, k < ps.length → ∃ a' c', W.cell? ⟨b, k, none⟩ = some (.slice a' (ps.getD k []).length c') ∧ IntsLie W (.slice a' (ps.getD k []).length c') (pathInts (ps.getD k [])) := by
  obtain ⟨a1, c1, e, i⟩ := h
  obtain ⟨rfl, -, rfl⟩ := by simpa using e
  rcases i with i | ⟨b, e1, e2, e3, e4, e5⟩
  · rw [i] at h0; exact absurd h0 (by simp)
  · refine ⟨b, e1, e2, e4, fun k hk => ?_⟩
    obtain ⟨c', h1, a2, c2, rfl, h2⟩ := e5 k hk
    exact ⟨a2, c2, h1, intsF_lies h2⟩

end Go.Proofs.YtcgedpfolloinaaGreat

namespace Go.Proofs.YtcgedpfolloinaaGreat
open Go.RowKit

set_option maxRecDepth 100000 in
set_option maxHeartbeats 2000000 in
theorem below_any (v : Value) (l : List Int) (n : Int) (w : World) (h : IntsLie w v l) (hl : l.length ≤ 1000000) :
    Calls Tryz.prog 146 #[v, .int .i64 n] w fun e w' => ∃ a c, e = .returned (.slice a (l.length + 1) c) ∧ IntsF w.heap.size w' (.slice a (l.length + 1) c) (l ++ [n]) ∧ Below w.heap.size w w' := by
  obtain ⟨i0, hi, hz0, hz1, hz2⟩ := info_parts info_int2
  obtain ⟨a, cap, rfl⟩ := ints_form h
  have H := Lib.hid h
  clear h
  cases a with
  | none =>
    have hl0 : l = [] := by
      rcases H.out with ⟨_, _, h1, h2⟩ | ⟨b, off, cap', h1, _⟩
      · exact h2
      · simp at h1
    subst hl0
    simp only [List.length_nil]
    have hown0 : (w.alloc (.cells #[.int .i64 n] 3)).ownsRow w.heap.size 3 1 (.slice none 0 0) 0 [] := ⟨rfl, .inl ⟨rfl, rfl⟩⟩
    have hx : (w.alloc (.cells #[.int .i64 n] 3)).cell? ⟨w.heap.size, 0, none⟩ = some (.int .i64 n) := cell_of_block (World.alloc_heap_new _ _) rfl
    go_enter Tryz.func146, Tryz.ntmps146
    go_upto_region 3 with fail
    go_wp2_with (at_builtin; refine wpList_append_own _ rfl _ _ 41 rfl w.heap.size 3 i0 (.int .i64 0) 1 8 Tryz.underlying41 hi hz0 hz1 hz2 rfl (by decide) _ _ _ rfl hown0 ⟨w.heap.size, 0, none⟩ 1 1 [.int .i64 n] rfl (by simp) ?c0 ?c1 ?c2 ?c3 ?c4 ?stop)
    case c0 => intro j u hj; cases j with
      | zero => simp at hj; subst hj; exact hx
      | succ j => simp at hj
    case c1 =>
      intro u hu
      simp at hu; subst hu; rfl
    case c2 => unfold maxLen; omega
    case c3 => omega
    case c4 => simp
    case stop =>
      intro v' w2 hown hgrow _
      have HF := Lib.hid (intsF_owned (l := [n]) (by simpa using hown))
      have HB := Lib.hid ((((Below.refl w.heap.size w).alloc (Nat.le_refl _) _)).grown hgrow (by simp) (fun k hk => by simp [Value.ownBlock] at hk))
      obtain ⟨a2, c2, rfl⟩ := intsF_form HF.out
      clear hown hgrow
      simp only [List.length_cons, List.length_nil, Nat.zero_add] at HF ⊢
      go_wp2_with fail
      go_ret
      exact ⟨a2, c2, rfl, HF.out, HB.out⟩
  | some ad =>
    have hnews : ∀ j u, (l.map (Value.int .i64))[j]? = some u → w.cell? (ad.add j) = some u := by
      intro j u hj
      have hjl : j < l.length := by have := (List.getElem?_eq_some_iff.1 hj).1; simpa using this
      obtain ⟨b, off, cap', hs, _, hb, hc⟩ := ints_cells H.out (by intro e; subst e; simp at hjl)
      simp only [Value.slice.injEq, Option.some.injEq] at hs
      obtain ⟨rfl, -, -⟩ := hs
      rw [Go.WideShapes.add_plain, hc j hjl, ← hj]
      rw [List.getElem?_map, List.getD_eq_getElem?_getD, List.getElem?_eq_getElem hjl]; rfl
    have hown0 : w.ownsRow w.heap.size 3 1 (.slice none 0 0) 0 [] := ⟨rfl, .inl ⟨rfl, rfl⟩⟩
    have HN := Lib.hid hnews
    clear hnews
    go_enter Tryz.func146, Tryz.ntmps146
    go_wp2_with (at_builtin; refine wpList_append_own _ rfl _ _ 41 rfl w.heap.size 3 i0 (.int .i64 0) 1 8 Tryz.underlying41 hi hz0 hz1 hz2 rfl (by decide) _ _ _ rfl hown0 ad l.length cap (l.map (Value.int .i64)) rfl (by simp) HN.out ?c1 ?c2 ?c3 ?c4 ?stop)
    case c1 =>
      intro u hu
      obtain ⟨q, _, rfl⟩ := List.mem_map.1 hu
      rfl
    case c2 => unfold maxLen; omega
    case c3 => omega
    case c4 => simp
    case stop =>
      intro v' w2 hown hgrow _
      have HB := Lib.hid ((Below.refl w.heap.size w).grown hgrow (by simp) (fun k hk => by simp [Value.ownBlock] at hk))
      have hO : (w2.alloc (.cells #[.int .i64 n] 3)).ownsRow w.heap.size 3 1 v' l.length (l.map (Value.int .i64)) := hown.alloc _
      have hx : (w2.alloc (.cells #[.int .i64 n] 3)).cell? ⟨w2.heap.size, 0, none⟩ = some (.int .i64 n) := cell_of_block (World.alloc_heap_new _ _) rfl
      have hs2 := HB.out.size
      obtain ⟨a2, c2, rfl⟩ := intsF_form (intsF_owned hown)
      clear hown hgrow
      go_wp2_with (at_builtin; refine wpList_append_own _ rfl _ _ 41 rfl w.heap.size 3 i0 (.int .i64 0) 1 8 Tryz.underlying41 hi hz0 hz1 hz2 rfl (by decide) _ _ _ rfl hO ⟨w2.heap.size, 0, none⟩ 1 1 [.int .i64 n] rfl (by simp) ?c0 ?c1 ?c2 ?c3 ?c4 ?stop)
      case c0 => intro j u hj; cases j with
        | zero => simp at hj; subst hj; exact hx
        | succ j => simp at hj
      case c1 =>
        intro u hu
        simp at hu; subst hu; rfl
      case c2 => unfold maxLen; omega
      case c3 => omega
      case c4 => simp; omega
      case stop =>
        intro v' w3 hown hgrow _
        have HF := Lib.hid (intsF_owned (l := l ++ [n]) (by simpa using hown))
        have HC := Lib.hid ((HB.out.alloc hs2 (.cells #[.int .i64 n] 3)).grown hgrow (by simp; omega) (fun k hk => by
          rcases hO.2 with ⟨e, _⟩ | ⟨g, _, _, e, hg, _⟩
          · rw [e] at hk; simp [Value.ownBlock] at hk
          · rw [e] at hk; simp [Value.ownBlock] at hk; omega))
        obtain ⟨a3, c3, rfl⟩ := intsF_form HF.out
        clear hown hgrow
        simp only [List.length_append, List.length_cons, List.length_nil, Nat.zero_add] at HF ⊢
        go_wp2_with fail
        go_ret
        exact ⟨a3, c3, rfl, HF.out, HC.out⟩
end Go.Proofs.YtcgedpfolloinaaGreat

namespace Go.Proofs.YtcgedpfolloinaaGreat
open Go.RowKit

theorem take_all : ∀ (f : Fo), f.take f.len = f
  | .nil => rfl
  | .cons h ks r => by show Fo.cons h ks (r.take r.len) = _; rw [take_all r]
theorem len_take : ∀ (f : Fo) (k : Nat), k ≤ f.len → (f.take k).len = k
  | .nil, k, h => by simp [Fo.len] at h; subst h; rfl
  | .cons h ks r, 0, _ => rfl
  | .cons h ks r, k + 1, hk => by show (r.take k).len + 1 = _; rw [len_take r k (by simp [Fo.len] at hk; omega)]

end Go.Proofs.YtcgedpfolloinaaGreat

namespace Go.Proofs.YtcgedpfolloinaaGreat
open Go.RowKit

theorem lies_one {w : World} {b : Nat} {h : Hd} {ks : Fo} {aa : Option Addr} {ca : Nat} {ak : Option Addr} {ck : Nat} (hb : w.heap[b]? = some (.cells #[.int .i64 h.k, .string ⟨h.l.toArray⟩, .slice aa h.ats.length ca, .int .i64 h.n, .int .i64 h.d, .string ⟨h.x.toArray⟩, .slice ak ks.len ck] 43)) (ha : AttrsLie w (.slice aa h.ats.length ca) h.ats) (hk : Lies w (.slice ak ks.len ck) ks) :
    Lies w (.slice (some ⟨b, 0, none⟩) 1 1) (.cons h ks .nil) := by
  have hlt : b < w.heap.size := (Array.getElem?_eq_some_iff.1 hb).1
  exact .inr ⟨b, 0, 1, rfl, Nat.le_refl _, by simp [Fo.len], hlt, ⟨⟨cell_of_block hb rfl, cell_of_block hb rfl, ⟨_, cell_of_block hb rfl, ha⟩, cell_of_block hb rfl, cell_of_block hb rfl, cell_of_block hb rfl⟩, ⟨_, cell_of_block hb rfl, hk⟩, trivial⟩⟩
end Go.Proofs.YtcgedpfolloinaaGreat

namespace Go.Proofs.YtcgedpfolloinaaGreat
open Go.RowKit

/-- tree number j. -/
def nth : Fo → Nat → Option (Hd × Fo)
  | .nil, _ => none
  | .cons h ks _, 0 => some (h, ks)
  | .cons _ _ r, j + 1 => nth r j
theorem nth_drop : ∀ {f : Fo} {j : Nat} {h : Hd} {ks r : Fo}, f.drop j = .cons h ks r → nth f j = some (h, ks)
  | .nil, j, h, ks, r, e => by rw [Fo.drop_nil] at e; cases e
  | .cons _ _ _, 0, h, ks, r, e => by cases e; rfl
  | .cons _ _ r0, j + 1, h, ks, r, e => nth_drop (f := r0) e
theorem drop_nth : ∀ {f : Fo} {j : Nat} {h : Hd} {ks : Fo}, nth f j = some (h, ks) → f.drop j = .cons h ks (f.drop (j + 1))
  | .nil, j, h, ks, e => by cases e
  | .cons _ _ r0, 0, h, ks, e => by
    simp only [nth, Option.some.injEq, Prod.mk.injEq] at e
    obtain ⟨rfl, rfl⟩ := e
    cases r0 <;> rfl
  | .cons _ _ r0, j + 1, h, ks, e => drop_nth (f := r0) e
theorem nth_lt : ∀ {f : Fo} {j : Nat} {x : Hd × Fo}, nth f j = some x → j < f.len
  | .nil, j, x, e => by cases e
  | .cons _ _ r, 0, x, e => by simp [Fo.len]
  | .cons _ _ r, j + 1, x, e => by have := nth_lt (f := r) e; simp [Fo.len]; omega
theorem nth_some : ∀ {f : Fo} {j : Nat}, j < f.len → ∃ h ks, nth f j = some (h, ks)
  | .nil, j, h => by simp [Fo.len] at h
  | .cons h ks _, 0, _ => ⟨h, ks, rfl⟩
  | .cons _ _ r, j + 1, h => nth_some (f := r) (by simp [Fo.len] at h; omega)
theorem fo_ext : ∀ {f g : Fo}, (∀ j, nth f j = nth g j) → f = g
  | .nil, .nil, _ => rfl
  | .nil, .cons _ _ _, h => by have := h 0; cases this
  | .cons _ _ _, .nil, h => by have := h 0; cases this
  | .cons h ks r, .cons h' ks' r', e => by
    have e0 := e 0
    simp only [nth, Option.some.injEq, Prod.mk.injEq] at e0
    obtain ⟨rfl, rfl⟩ := e0
    rw [fo_ext (f := r) (g := r') fun j => e (j + 1)]
theorem nth_app : ∀ (f g : Fo) (j : Nat), nth (f.app g) j = if j < f.len then nth f j else nth g (j - f.len)
  | .nil, g, j => by simp [Fo.app, Fo.len]
  | .cons h ks r, g, 0 => by simp [Fo.app, Fo.len, nth]
  | .cons h ks r, g, j + 1 => by simp [Fo.app, Fo.len, nth, nth_app r g j]
/-- all heads are valid. -/
theorem heads_zero {h : Hd} {ks r : Fo} : headsErr (.cons h ks r) = 0 ↔ headErr h = 0 ∧ ¬ (h.k ≠ 0 ∧ ks.len ≠ 0) ∧ headsErr ks = 0 ∧ headsErr r = 0 := by
  rw [headsErr]
  constructor
  · intro e
    by_cases h1 : headErr h = 0
    · rw [if_neg (by simpa using h1)] at e
      by_cases h2 : h.k ≠ 0 ∧ ks.len ≠ 0
      · rw [if_pos h2] at e; cases e
      · rw [if_neg h2] at e
        by_cases h3 : headsErr ks = 0
        · rw [if_neg (by simpa using h3)] at e
          exact ⟨h1, h2, h3, e⟩
        · rw [if_pos h3] at e; exact absurd e h3
    · rw [if_pos h1] at e; exact absurd e h1
  · rintro ⟨h1, h2, h3, h4⟩
    rw [if_neg (by simpa using h1), if_neg h2, if_neg (by simpa using h3), h4]
theorem heads_app2 : ∀ {f g : Fo}, headsErr (f.app g) = 0 ↔ headsErr f = 0 ∧ headsErr g = 0
  | .nil, g => by simp [Fo.app, headsErr]
  | .cons h ks r, g => by
    rw [Fo.app, heads_zero, heads_zero, heads_app2 (f := r)]
    constructor
    · rintro ⟨a, b, c, d, e⟩; exact ⟨⟨a, b, c, d⟩, e⟩
    · rintro ⟨⟨a, b, c, d⟩, e⟩; exact ⟨a, b, c, d, e⟩
theorem fo_zero {f : Fo} : foErr f = 0 ↔ f.size ≤ 400 ∧ f.deep ≤ 40 ∧ headsErr f = 0 := by
  unfold foErr
  constructor
  · intro e
    by_cases h1 : 400 < f.size
    · rw [if_pos h1] at e; cases e
    · rw [if_neg h1] at e
      by_cases h2 : 40 < f.deep
      · rw [if_pos h2] at e; cases e
      · rw [if_neg h2] at e; exact ⟨by omega, by omega, e⟩
  · rintro ⟨h1, h2, h3⟩
    rw [if_neg (by omega), if_neg (by omega), h3]
theorem place_nth (f : Fo) (j : Nat) (p : List Nat) : placeF f (pathInts (j :: p)) = match nth f j with
    | none => none
    | some (h, ks) => if p = [] then some (h, ks) else placeF ks (pathInts p) := by
  simp only [List.map_cons, placeF]
  rw [if_neg (by omega), Int.toNat_natCast]
  cases hn : nth f j with
  | none =>
    have : f.drop j = .nil := by
      rcases Nat.lt_or_ge j f.len with h | h
      · obtain ⟨a, b, e⟩ := nth_some h
        rw [hn] at e; cases e
      · exact Fo.drop_ge _ _ h
    rw [this]
  | some x =>
    obtain ⟨h, ks⟩ := x
    rw [drop_nth hn]
    cases p <;> simp
end Go.Proofs.YtcgedpfolloinaaGreat

namespace Go.Proofs.YtcgedpfolloinaaGreat
open Go.RowKit

set_option maxRecDepth 100000 in
set_option maxHeartbeats 2000000 in
theorem grow_any (n : Nat) (w : World) (hn : n ≤ 1000000) :
    Calls Tryz.prog 149 #[.slice none 0 0, .int .i64 n] w fun e w' => ∃ a c, e = .returned (.slice a 0 c) ∧ w'.ownsRow w.heap.size 43 7 (.slice a 0 c) 0 [] ∧ Below w.heap.size w w' := by
  obtain ⟨i0, hi, hz0, hz1, hz2⟩ := info_parts info_tree
  by_cases h0 : n = 0
  · subst h0
    go_enter Tryz.func149, Tryz.ntmps149
    go_wp2_with fail
    go_ret
    exact ⟨_, _, rfl, World.ownsRow_nil _ _ _ _, Below.refl _ _⟩
  · have hpos : ((0 : Int) < (n : Int)) := by omega
    have d1 : decide ((0 : Int) < (n : Int)) = true := by simp; omega
    have d2 : decide (0 < n) = true := by simp; omega
    have hnc : n ≤ grownCap w n 0 43 := grownCap_ge w n 0 43
    have hcm : grownCap w n 0 43 ≤ maxLen := grownCap_le_maxLen w n 0 43 (by unfold maxLen; omega)
    have hrz := fun ty => Lib.run_append_nil_zeros (P := Tryz.prog) w 28 3 ty 43 i0 _ .i64 .i64 Tryz.underlying28 Tryz.underlying3 hi hz0 n (by omega) (by rw [hz1]; decide) (by omega) (by rw [hz2]; omega)
    obtain ⟨G, hG⟩ : ∃ G, grownCap w n 0 43 = G := ⟨_, rfl⟩
    rw [hG] at hnc hcm
    simp only [hG] at hrz
    have HRZ := Lib.hid hrz
    have hG63 : G ≤ 9223372036854775807 := by unfold maxLen at hcm; omega
    clear hrz hG
    go_enter Tryz.func149, Tryz.ntmps149
    go_wp2_with (at_builtin; refine Lib.wpList_append_run _ rfl _ _ _ _ rfl _ _ rfl rfl _ _ (HRZ.out _) ?_)
    go_ret
    refine ⟨_, _, rfl, ⟨rfl, .inr ⟨w.heap.size, G, _, rfl, Nat.le_refl _, World.alloc_heap_new w.drew _, Nat.zero_le _, hcm, ?_, by simp⟩⟩, (Below.refl _ _).drew.alloc (Nat.le_refl _) _⟩
    rw [Array.size_append, size_zeroCells, size_zeroCells]
    show n * 7 + (G - n) * 7 = G * 7
    omega
end Go.Proofs.YtcgedpfolloinaaGreat

namespace Go.Proofs.YtcgedpfolloinaaGreat
open Go.RowKit

/-- all trees of some forests, one behind the other. -/
def catF : List Fo → Fo
  | [] => .nil
  | g :: r => g.app (catF r)
theorem app_assoc : ∀ a b c : Fo, (a.app b).app c = a.app (b.app c)
  | .nil, _, _ => rfl
  | .cons h ks r, b, c => by simp only [Fo.app]; rw [app_assoc r b c]
theorem catF_snoc (g : Fo) : ∀ gs : List Fo, catF (gs ++ [g]) = (catF gs).app g
  | [] => by simp [catF, Fo.app, app_nil]
  | x :: r => by simp only [List.cons_append, catF]; rw [catF_snoc g r, app_assoc]
theorem app_length : ∀ f g : Fo, (f.app g).len = f.len + g.len
  | .nil, g => by simp [Fo.app, Fo.len]
  | .cons h ks r, g => by simp only [Fo.app, Fo.len]; rw [app_length r g]; omega
theorem take_getD {gs : List Fo} {k : Nat} (hk : k < gs.length) : gs.take (k + 1) = gs.take k ++ [gs.getD k .nil] := by
  rw [List.take_add_one, List.getD_eq_getElem?_getD, List.getElem?_eq_getElem hk]; rfl
theorem catF_take {gs : List Fo} {k : Nat} (hk : k < gs.length) : catF (gs.take (k + 1)) = (catF (gs.take k)).app (gs.getD k .nil) := by
  rw [take_getD hk, catF_snoc]
theorem catF_le : ∀ (gs : List Fo) (k : Nat), (catF (gs.take k)).len ≤ (catF gs).len
  | [], k => by simp
  | g :: r, 0 => by simp [catF, Fo.len]
  | g :: r, k + 1 => by
    simp only [List.take_succ_cons, catF, app_length]
    have := catF_le r k
    omega
theorem rowL_app {B : Nat} {W : World} : ∀ (f g : Fo) (cs ds : List Value), RowL B W f cs → RowL B W g ds → RowL B W (f.app g) (cs ++ ds)
  | .nil, g, cs, ds, h, k => by rw [show cs = [] from h]; exact k
  | .cons h ks r, g, cs, ds, H, k => by
    obtain ⟨aa, ca, ak, ck, rest, rfl, ha, hk, hr⟩ := H
    exact ⟨aa, ca, ak, ck, rest ++ ds, by simp, ha, hk, rowL_app r g rest ds hr k⟩
theorem rowL_keeps {B : Nat} {W W' : World} (k : Keeps B W W') : ∀ (f : Fo) (cs : List Value), RowL B W f cs → RowL B W' f cs
  | .nil, _, h => h
  | .cons h ks r, cs, H => by
    obtain ⟨aa, ca, ak, ck, rest, e, ha, hk, hr⟩ := H
    exact ⟨aa, ca, ak, ck, rest, e, attrsF_keeps ha k, liesF_keeps hk k, rowL_keeps k r rest hr⟩
theorem rowF_cells {B : Nat} {W : World} {b : Nat} : ∀ (f : Fo) (o : Nat), RowF B W f b o → ∃ cs, RowL B W f cs ∧ cs.length = f.len * 7 ∧ (∀ u ∈ cs, u.oneCell' = true) ∧ ∀ j u, cs[j]? = some u → W.cell? ⟨b, o + j, none⟩ = some u
  | .nil, o, _ => ⟨[], rfl, rfl, fun u h => (by cases h), fun j u h => (by simp at h)⟩
  | .cons h ks r, o, H => by
    obtain ⟨⟨h0, h1, ⟨va, h2, ha⟩, h3, h4, h5⟩, ⟨v, h6, hk⟩, hr⟩ := H
    obtain ⟨cs, c1, c2, c4, c3⟩ := rowF_cells r (o + 7) hr
    obtain ⟨aa, ca, rfl⟩ := attrsF_form ha
    have hkl : LiesF B W v ks := hk
    obtain ⟨ak, ck, rfl⟩ := liesF_form hkl
    refine ⟨treeCells h aa ca ak ks.len ck ++ cs, ⟨aa, ca, ak, ck, cs, rfl, ha, hkl, c1⟩, by simp [treeCells, Fo.len, c2]; omega, ?_, ?_⟩
    · intro u hu
      rcases List.mem_append.1 hu with hu | hu
      · simp [treeCells] at hu; rcases hu with rfl | rfl | rfl | rfl | rfl | rfl | rfl <;> rfl
      · exact c4 u hu
    · intro j u hj
      match j, hj with
      | 0, hj => simp [treeCells] at hj; subst hj; exact h0
      | 1, hj => simp [treeCells] at hj; subst hj; exact h1
      | 2, hj => simp [treeCells] at hj; subst hj; exact h2
      | 3, hj => simp [treeCells] at hj; subst hj; exact h3
      | 4, hj => simp [treeCells] at hj; subst hj; exact h4
      | 5, hj => simp [treeCells] at hj; subst hj; exact h5
      | 6, hj => simp [treeCells] at hj; subst hj; exact h6
      | j + 7, hj =>
        rw [List.getElem?_append_right (by simp [treeCells])] at hj
        have := c3 j u (by simpa [treeCells] using hj)
        rw [show o + (j + 7) = o + 7 + j by omega]
        exact this
theorem append_none {P : Program} {w : World} (t ty e : TypeId) (i : TypeInfo) (size : Nat) (ht : P.underlying t = some (.slice e)) (hi : P.info? e = some i) {base : Nat}
    (v : Value) (n c : Nat) (xs : List Value) (hown : w.ownsRow base e size v n xs) :
    (Builtin.append_ #[t, t] ty #[v, .slice none 0 c]).run P w = .ok v w := by
  rcases hown.2 with ⟨rfl, rfl⟩ | ⟨g, cap, cur, rfl, _, _, hnc, _⟩
  · simp [Builtin.append_, run_underlying ht, sizeOf, typeInfo, hi, Builtin.lenOf, Builtin.firstCells]
  · simp [Builtin.append_, run_underlying ht, sizeOf, typeInfo, hi, Builtin.lenOf, Builtin.firstCells, hnc, storeCells]

/-- some slices of trees, in a block. -/
def SlicesAt (B : Nat) (w : World) (b : Nat) (gs : List Fo) : Prop :=
  b < w.heap.size ∧ ∀ k, k < gs.length → ∃ a cap, w.cell? ⟨b, k, none⟩ = some (.slice a (gs.getD k .nil).len cap) ∧ LiesF B w (.slice a (gs.getD k .nil).len cap) (gs.getD k .nil)

set_option maxRecDepth 100000 in
set_option maxHeartbeats 8000000 in
theorem concatT_any (gs : List Fo) (b B : Nat) (w : World) (hB : B ≤ w.heap.size) (hs : SlicesAt B w b gs) (hn : gs.length ≤ 100) (hT : (catF gs).len ≤ 1000000) :
    Calls Tryz.prog 110 #[.slice (some ⟨b, 0, none⟩) gs.length gs.length] w fun e w' => ∃ a cap, e = .returned (.slice a (catF gs).len cap) ∧ LiesF B w' (.slice a (catF gs).len cap) (catF gs) ∧ Below w.heap.size w w' := by
  obtain ⟨i0, hi, hz0, hz1, hz2⟩ := info_parts info_tree
  have HS := Lib.hid hs.2
  have hb := hs.1
  have HSUC := Lib.hid (fun k (hk : k < gs.length) => (congrArg Fo.len (catF_take hk)).trans (app_length _ _))
  have HLE := Lib.hid (fun k => catF_le gs k)
  have HCAT := Lib.hid (fun k (hk : k < gs.length) => catF_take hk)
  have HALL := Lib.hid (show catF (gs.take gs.length) = catF gs by rw [List.take_length])
  have HGR := Lib.hid (fun n (h : n ≤ 1000000) => grow_any n w h)
  clear hs
  go_enter Tryz.func110, Tryz.ntmps110
  go_wp2_with fail
  go_loop [3, 11] (fun s i => ∃ k : Nat, i = .int .i64 k ∧ k ≤ gs.length ∧ s = .int .i64 (catF (gs.take k)).len) (fun _ i => gs.length - (intOf i).toNat)
  case atStart => exact ⟨0, rfl, Nat.zero_le _, rfl⟩
  case round =>
    obtain ⟨k, rfl, hk, rfl⟩ := hrel
    by_cases hlt : k < gs.length
    · obtain ⟨a, cap, hc, -⟩ := HS.out k hlt
      have e1 := HSUC.out k hlt
      have e2 := HLE.out (k + 1)
      have hlen : (gs.getD k .nil).len ≤ 1000000 := by omega
      have hlk : (catF (gs.take k)).len ≤ 1000000 := by omega
      have HE := Lib.hid e1
      generalize (gs.getD k .nil).len = m at *
      clear e1 e2
      go_wp2_with fail
      go_round
      case rel => exact ⟨k + 1, by go_num, by omega, by rw [HE.out]; simp⟩
      case measure => simp [intOf]; omega
    · obtain rfl : k = gs.length := by omega
      rw [HALL.out]
      go_wp2_with fail
      refine (HGR.out _ hT).mono ?_
      rintro e w1 ⟨a0, c0, rfl, hown0, hb1⟩
      have HOWN0 := Lib.hid hown0
      have hs1 := hb1.size
      have HB1 := Lib.hid hb1
      clear hown0 hb1
      go_wp2_with fail
      go_loopw [6, 27] (fun v i wr => ∃ (k : Nat) (a : Option Addr) (c : Nat) (cs : List Value), i = .int .i64 k ∧ k ≤ gs.length ∧ v = .slice a (catF (gs.take k)).len c ∧ wr.ownsRow w.heap.size 43 7 (.slice a (catF (gs.take k)).len c) (catF (gs.take k)).len cs ∧ RowL B w (catF (gs.take k)) cs ∧ Below w.heap.size w wr) (fun _ i _ => gs.length - (intOf i).toNat)
      case atStart => exact ⟨0, a0, c0, [], rfl, Nat.zero_le _, rfl, HOWN0.out, rfl, HB1.out⟩
      case round =>
        obtain ⟨k, a, c, cs, rfl, hk, rfl, hown, hrow, hbw⟩ := hrel
        have OWN := Lib.hid hown
        have ROW := Lib.hid hrow
        have BW := Lib.hid hbw
        have hsr := hbw.size
        clear hown hrow
        by_cases hlt : k < gs.length
        · obtain ⟨ax, cx, hc, hx⟩ := HS.out k hlt
          have HE := Lib.hid (HSUC.out k hlt)
          have HC := Lib.hid (HCAT.out k hlt)
          have e2 := HLE.out (k + 1)
          have hle2 : (catF (gs.take k)).len + (gs.getD k .nil).len ≤ 1000000 := by rw [← HE.out]; omega
          have hcr := (hbw.cell (p := ⟨b, k, none⟩) hb).trans hc
          have hbr : b < wr.heap.size := by omega
          clear hc hbw e2
          generalize catF (gs.take k) = F at *
          generalize gs.getD k .nil = g at *
          rcases hx with ⟨ay, cy, hv, rfl⟩ | ⟨bx, ox, cpx, hv, h1, h2, h3, h4, hrf⟩
          · simp only [Value.slice.injEq] at hv
            obtain ⟨rfl, -, rfl⟩ := hv
            have HE2 := Lib.hid (show (catF (gs.take (k + 1))).len = F.len by rw [HE.out]; simp [Fo.len])
            have HC2 := Lib.hid (show catF (gs.take (k + 1)) = F by rw [HC.out, app_nil])
            cases ax with
            | none =>
              go_wp2_with (at_builtin; refine Lib.wpList_append_run _ rfl _ _ _ _ rfl _ _ rfl rfl _ _ (append_none 28 _ 43 i0 7 Tryz.underlying28 hi _ _ _ _ OWN.out) ?_)
              go_roundw
              case rel => exact ⟨k + 1, a, c, cs, by go_num, by omega, by rw [HE2.out], by rw [HE2.out]; exact OWN.out, by rw [HC2.out]; exact ROW.out, BW.out⟩
              case measure => simp [intOf]; omega
            | some ad =>
              go_wp2_with (at_builtin; refine wpList_append_own _ rfl _ _ 28 rfl w.heap.size 43 i0 _ 7 104 Tryz.underlying28 hi hz0 hz1 hz2 rfl (by decide) (.slice a F.len c) F.len cs rfl OWN.out ad 0 cx [] rfl rfl ?c1 ?c2 ?c3 ?c4 ?c5 ?stop)
              case c1 => intro j u hj; simp at hj
              case c2 => intro u hu; cases hu
              case c3 => unfold maxLen; omega
              case c4 => omega
              case c5 => omega
              case stop =>
                intro v' w5 hown' hgrow _
                have hform : ∃ a' c', v' = .slice a' F.len c' := by
                  rcases hown'.2 with ⟨e, h0⟩ | ⟨g', c', cur, e, _⟩
                  · exact ⟨none, 0, by rw [e, show F.len = 0 by omega]⟩
                  · exact ⟨_, _, e⟩
                obtain ⟨a', c', rfl⟩ := hform
                have B5 := Lib.hid (BW.out.grown hgrow (by omega) (fun j hj => (OWN.out.lt j hj).1))
                have O5 := Lib.hid (show w5.ownsRow w.heap.size 43 7 (.slice a' F.len c') F.len cs by simpa using hown')
                clear hown' hgrow
                go_wp2_with fail
                go_roundw
                case rel => exact ⟨k + 1, a', c', cs, by go_num, by omega, by rw [HE2.out], by rw [HE2.out]; exact O5.out, by rw [HC2.out]; exact ROW.out, B5.out⟩
                case measure => simp [intOf]; omega
          · simp only [Value.slice.injEq] at hv
            obtain ⟨rfl, -, rfl⟩ := hv
            obtain ⟨ds, hd1, hd2, hd4, hd3⟩ := rowF_cells g ox hrf
            have HD := Lib.hid (show ∀ j u, ds[j]? = some u → wr.cell? ((⟨bx, ox, none⟩ : Addr).add j) = some u from fun j u hj => by
              rw [Go.WideShapes.add_plain]
              exact (BW.out.cell (p := ⟨bx, ox + j, none⟩) h4).trans (hd3 j u hj))
            have HR2 := Lib.hid (rowL_app F g cs ds ROW.out hd1)
            clear hd3 hrf
            go_wp2_with (at_builtin; refine wpList_append_own _ rfl _ _ 28 rfl w.heap.size 43 i0 _ 7 104 Tryz.underlying28 hi hz0 hz1 hz2 rfl (by decide) (.slice a F.len c) F.len cs rfl OWN.out ⟨bx, ox, none⟩ g.len cx ds rfl hd2 ?c1 ?c2 ?c3 ?c4 ?c5 ?stop)
            case c1 => exact HD.out
            case c2 => exact hd4
            case c3 => unfold maxLen; omega
            case c4 => omega
            case c5 => omega
            case stop =>
              intro v' w5 hown' hgrow _
              have hform : ∃ a' c', v' = .slice a' (F.len + g.len) c' := by
                rcases hown'.2 with ⟨e, h0⟩ | ⟨g', c', cur, e, _⟩
                · exact ⟨none, 0, by rw [e, h0]⟩
                · exact ⟨_, _, e⟩
              obtain ⟨a', c', rfl⟩ := hform
              have B5 := Lib.hid (BW.out.grown hgrow (by omega) (fun j hj => (OWN.out.lt j hj).1))
              have O5 := Lib.hid hown'
              clear hown' hgrow
              go_wp2_with fail
              go_roundw
              case rel => exact ⟨k + 1, a', c', cs ++ ds, by go_num, by omega, by rw [HE.out], by rw [HE.out]; exact O5.out, by rw [HC.out]; exact HR2.out, B5.out⟩
              case measure => simp [intOf]; omega
        · obtain rfl : k = gs.length := by omega
          have HF := Lib.hid (show LiesF B wr (.slice a (catF gs).len c) (catF gs) by
            have hr := rowL_keeps (Keeps.of_below BW.out : Keeps B w wr) _ _ ROW.out
            have ho := OWN.out
            rw [HALL.out] at hr ho
            rcases ho.2 with ⟨e, h0⟩ | ⟨g', c', cur, e, hb', hg', hn', hc', _, _⟩
            · cases hcf : catF gs with
              | nil => exact .inl ⟨_, _, rfl, rfl⟩
              | cons h ks r => rw [hcf] at h0; simp [Fo.len] at h0
            · simp only [Value.slice.injEq] at e
              obtain ⟨rfl, -, rfl⟩ := e
              refine .inr ⟨g', 0, c, rfl, hn', by omega, by omega, (Array.getElem?_eq_some_iff.1 hg').1, rowL_row _ _ 0 hr fun j u hj => ?_⟩
              have := ho.cells (g := g') rfl j u hj
              rw [Go.WideShapes.add_plain] at this
              simpa using this)
          clear hbw
          rw [HALL.out]
          go_wp2_with fail
          go_ret
          exact ⟨_, _, rfl, HF.out, BW.out⟩
end Go.Proofs.YtcgedpfolloinaaGreat

namespace Go.Proofs.YtcgedpfolloinaaGreat
open Go.RowKit

set_option maxRecDepth 100000 in
set_option maxHeartbeats 2000000 in
theorem within_any (f : Fo) (a : Option Addr) (cap : Nat) (w : World) (hl : Lies w (.slice a f.len cap) f) (hs : f.size ≤ 1000000) :
    Calls Tryz.prog 109 #[.slice a f.len cap] w fun e w' => e = .returned (.tuple #[if bndErr f = 0 then .slice a f.len cap else .slice none 0 0, .int .i64 (bndErr f)]) ∧ Below w.heap.size w w' := by
  have C := Lib.hid (checkBounds_any f _ w hl hs)
  clear hl hs
  by_cases h0 : bndErr f = 0
  · rw [if_pos h0]
    rw [h0] at C ⊢
    clear h0
    go_enter Tryz.func109, Tryz.ntmps109
    go_wp2_with fail
    refine C.out.mono ?_
    rintro e w1 ⟨rfl, hb1⟩
    go_wp2_with fail
    go_ret2
    exact ⟨rfl, hb1⟩
  · rw [if_neg h0]
    generalize bndErr f = ef at *
    have b0 : (ef != 0) = true := by simpa using h0
    clear h0
    go_enter Tryz.func109, Tryz.ntmps109
    go_wp2_with fail
    refine C.out.mono ?_
    rintro e w1 ⟨rfl, hb1⟩
    go_wp2_with fail
    go_ret2
    exact ⟨rfl, hb1⟩

/-- a forest, if it is in the bounds. -/
def inBnd (f : Fo) : Fo × Int := if bndErr f = 0 then (f, 0) else (.nil, bndErr f)
/-- what gives a forest and an error. -/
def FoE (w : World) (r : Fo × Int) (e : Ending) (w' : World) : Prop :=
  ∃ v, e = .returned (.tuple #[v, .int .i64 r.2]) ∧ LiesF w.heap.size w' v r.1 ∧ Below w.heap.size w w'
theorem len_size : ∀ f : Fo, f.len ≤ f.size
  | .nil => Nat.le_refl _
  | .cons h ks r => by have := len_size r; simp only [Fo.len, Fo.size]; omega
end Go.Proofs.YtcgedpfolloinaaGreat

namespace Go.Proofs.YtcgedpfolloinaaGreat
open Go.RowKit

theorem attrs_ok2 : ∀ (l : List (List UInt8 × List UInt8)) (b : List UInt8), attrsErr b l = 0 → ∀ q ∈ l, q.1.length ≤ 60 ∧ q.2.length ≤ 60
  | [], _, _, q, hq => by cases hq
  | (n, v) :: r, b, e, q, hq => by
    rw [attrsErr] at e
    by_cases h1 : namedB n = false
    · rw [if_pos h1] at e; cases e
    · rw [if_neg h1] at e
      by_cases h2 : leB n b = true
      · rw [if_pos h2] at e; cases e
      · rw [if_neg h2] at e
        by_cases h3 : printableB v 12 = false
        · rw [if_pos h3] at e; cases e
        · rw [if_neg h3] at e
          rcases List.mem_cons.1 hq with rfl | hq
          · simp only [Bool.not_eq_false] at h1 h3
            unfold namedB at h1
            unfold printableB at h3
            simp only [Bool.and_eq_true, decide_eq_true_eq] at h1 h3
            simp only
            omega
          · exact attrs_ok2 r n e q hq
theorem hdN_ok {h : Hd} (e : headErr h = 0) : hdN 60 h := by
  unfold headErr at e
  by_cases hs : strayB h = true
  · rw [if_pos hs] at e; cases e
  · rw [if_neg hs] at e
    by_cases h1 : h.k = 1
    · unfold strayB at hs
      rw [if_neg (by omega), if_pos h1] at hs
      simp only [Bool.or_eq_true, Bool.not_eq_true', decide_eq_false_iff_not, not_or, Decidable.not_not] at hs
      obtain ⟨hx, hl, ha⟩ := hs
      exact ⟨by rw [hl]; simp, by rw [hx]; simp, fun q hq => by rw [ha] at hq; cases hq⟩
    · rw [if_neg h1] at e
      by_cases h2 : h.k = 2
      · rw [if_pos h2] at e
        unfold strayB at hs
        rw [if_neg (by omega), if_neg h1, if_pos h2] at hs
        simp only [Bool.or_eq_true, Bool.not_eq_true', decide_eq_false_iff_not, not_or, Decidable.not_not] at hs
        obtain ⟨-, hl, ha⟩ := hs
        refine ⟨by rw [hl]; simp, ?_, fun q hq => by rw [ha] at hq; cases hq⟩
        by_cases hp : printableB h.x 24 = true
        · unfold printableB at hp
          simp only [Bool.and_eq_true, decide_eq_true_eq] at hp
          omega
        · rw [if_neg hp] at e; cases e
      · rw [if_neg h2] at e
        unfold strayB at hs
        by_cases h0 : h.k = 0
        · rw [if_pos h0] at hs
          simp only [Bool.or_eq_true, Bool.not_eq_true', decide_eq_false_iff_not, not_or, Decidable.not_not] at hs
          obtain ⟨-, hx⟩ := hs
          unfold elemErr at e
          by_cases hn : namedB h.l = false
          · rw [if_pos hn] at e; cases e
          · rw [if_neg hn] at e
            by_cases h3 : 3 < h.ats.length
            · rw [if_pos h3] at e; cases e
            · rw [if_neg h3] at e
              refine ⟨?_, by rw [hx]; simp, attrs_ok2 _ _ e⟩
              simp only [Bool.not_eq_false] at hn
              unfold namedB at hn
              simp only [Bool.and_eq_true, decide_eq_true_eq] at hn
              omega
        · rw [if_neg h0, if_neg h1, if_neg h2] at hs
          exact absurd rfl hs
theorem foN_ok : ∀ {f : Fo}, headsErr f = 0 → foN 60 f
  | .nil, _ => trivial
  | .cons h ks r, e => by
    obtain ⟨h1, -, h3, h4⟩ := heads_zero.1 e
    exact ⟨hdN_ok h1, foN_ok h3, foN_ok h4⟩
/-- what is valid is small. -/
theorem small_ok {f : Fo} (h : foErr f = 0) : Small f := by
  obtain ⟨h1, -, h3⟩ := fo_zero.1 h
  exact small_foN (N := 100000) (Nat.le_refl _) (by omega) (foN_mono (by omega) (foN_ok h3))
/- parts. -/
theorem nth_size : ∀ {f : Fo} {j : Nat} {h : Hd} {ks : Fo}, nth f j = some (h, ks) → ks.size + 1 ≤ f.size
  | .nil, _, _, _, e => by cases e
  | .cons _ _ _, 0, h, ks, e => by simp only [nth, Option.some.injEq, Prod.mk.injEq] at e; obtain ⟨rfl, rfl⟩ := e; simp only [Fo.size]; omega
  | .cons _ _ r, j + 1, h, ks, e => by have := nth_size (f := r) e; simp only [Fo.size]; omega
theorem nth_deep : ∀ {f : Fo} {j : Nat} {h : Hd} {ks : Fo}, nth f j = some (h, ks) → ks.deep + 1 ≤ f.deep
  | .nil, _, _, _, e => by cases e
  | .cons _ _ _, 0, h, ks, e => by simp only [nth, Option.some.injEq, Prod.mk.injEq] at e; obtain ⟨rfl, rfl⟩ := e; simp only [Fo.deep]; omega
  | .cons _ _ r, j + 1, h, ks, e => by have := nth_deep (f := r) e; simp only [Fo.deep]; omega
theorem nth_heads : ∀ {f : Fo} {j : Nat} {h : Hd} {ks : Fo}, nth f j = some (h, ks) → headsErr f = 0 → headErr h = 0 ∧ ¬ (h.k ≠ 0 ∧ ks.len ≠ 0) ∧ headsErr ks = 0
  | .nil, _, _, _, e, _ => by cases e
  | .cons _ _ _, 0, h, ks, e, z => by
    simp only [nth, Option.some.injEq, Prod.mk.injEq] at e; obtain ⟨rfl, rfl⟩ := e
    obtain ⟨h1, h2, h3, -⟩ := heads_zero.1 z
    exact ⟨h1, h2, h3⟩
  | .cons _ _ r, j + 1, h, ks, e, z => nth_heads (f := r) e (heads_zero.1 z).2.2.2
theorem place_part : ∀ (p : List Nat) {f : Fo} {h : Hd} {ks : Fo}, placeF f (pathInts p) = some (h, ks) → headsErr f = 0 → (ks.size + 1 ≤ f.size ∧ ks.deep + 1 ≤ f.deep) ∧ headErr h = 0 ∧ ¬ (h.k ≠ 0 ∧ ks.len ≠ 0) ∧ headsErr ks = 0
  | [], f, h, ks, e, _ => by cases f <;> cases e
  | j :: p, f, h, ks, e, z => by
    rw [place_nth] at e
    cases hn : nth f j with
    | none => rw [hn] at e; cases e
    | some x =>
      obtain ⟨h', ks'⟩ := x
      rw [hn] at e
      have s1 := nth_size hn
      have s2 := nth_deep hn
      have s3 := nth_heads hn z
      cases p with
      | nil =>
        simp only [if_true, Option.some.injEq, Prod.mk.injEq] at e
        obtain ⟨rfl, rfl⟩ := e
        exact ⟨⟨s1, s2⟩, s3⟩
      | cons a p =>
        have e' : placeF ks' (pathInts (a :: p)) = some (h, ks) := by simpa using e
        have := place_part (a :: p) e' s3.2.2
        exact ⟨⟨by omega, by omega⟩, this.2⟩
/-- a tree of a valid forest, alone. -/
theorem one_ok {p : List Nat} {f : Fo} {h : Hd} {ks : Fo} (e : placeF f (pathInts p) = some (h, ks)) (z : foErr f = 0) : foErr (.cons h ks .nil) = 0 := by
  obtain ⟨z1, z2, z3⟩ := fo_zero.1 z
  obtain ⟨⟨s1, s2⟩, s3, s4, s5⟩ := place_part p e z3
  refine fo_zero.2 ⟨?_, ?_, heads_zero.2 ⟨s3, s4, s5, rfl⟩⟩
  · simp only [Fo.size]; omega
  · simp only [Fo.deep]; omega
end Go.Proofs.YtcgedpfolloinaaGreat

namespace Go.Proofs.YtcgedpfolloinaaGreat
open Go.RowKit

theorem all2_append {α β : Type} {R : α → β → Prop} : ∀ {l l2 : List α} {m m2 : List β}, All2 R l m → All2 R l2 m2 → All2 R (l ++ l2) (m ++ m2)
  | _, _, _, _, .nil, h => h
  | _, _, _, _, .cons h1 h2, h => .cons h1 (all2_append h2 h)
theorem all2_len {α β : Type} {R : α → β → Prop} : ∀ {l : List α} {m : List β}, All2 R l m → m.length = l.length
  | _, _, .nil => rfl
  | _, _, .cons _ h => by simp [all2_len h]
/-- a row of paths that is owned. -/
def PathsO (B : Nat) (W : World) (v : Value) (ps : List (List Nat)) : Prop := ∃ cs, W.ownsRow B 41 1 v ps.length cs ∧ All2 (PathAt B W) ps cs
def StabP (B g : Nat) (W0 : World) (ps : List (List Nat)) (cs : List Value) : Prop :=
  ∀ W : World, W0.heap.size ≤ W.heap.size → (∀ k o, B ≤ k → k < W0.heap.size → k ≠ g → W.cell? ⟨k, o, none⟩ = W0.cell? ⟨k, o, none⟩) → All2 (PathAt B W) ps cs
theorem StabP.next {B g g' : Nat} {W0 W1 : World} {ps : List (List Nat)} {cs : List Value} (h : StabP B g W0 ps cs) (hs : W0.heap.size ≤ W1.heap.size) (hc : ∀ k o, B ≤ k → k < W0.heap.size → k ≠ g → W1.cell? ⟨k, o, none⟩ = W0.cell? ⟨k, o, none⟩) (hg : g' = g ∨ W0.heap.size ≤ g') :
    StabP B g' W1 ps cs := fun W hW hk => h W (Nat.le_trans hs hW) fun k o h1 h2 h3 => (hk k o h1 (Nat.lt_of_lt_of_le h2 hs) (by rcases hg with rfl | hg; exact h3; omega)).trans (hc k o h1 h2 h3)
/-- what an append leaves as it was. -/
theorem grown_cells {X w5 : World} {v : Value} {n cap' g' x B : Nat} {o : Obj} (hgrow : (X.alloc o).grownBy w5 v.ownBlock) (hat : (Value.slice (some ⟨g', 0, none⟩) n cap').ownBlock = v.ownBlock ∨ (Value.slice (some ⟨g', 0, none⟩) n cap').ownBlock = some x) (hx : X.heap.size ≤ x) :
    ∀ W : World, w5.heap.size ≤ W.heap.size → (∀ k o, B ≤ k → k < w5.heap.size → k ≠ g' → W.cell? ⟨k, o, none⟩ = w5.cell? ⟨k, o, none⟩) → ∀ k' o, B ≤ k' → k' < X.heap.size → (∀ j, v.ownBlock = some j → k' ≠ j) → W.cell? ⟨k', o, none⟩ = X.cell? ⟨k', o, none⟩ := by
  intro W hW hc k' o' h1 h2 h3
  have hs := hgrow.size
  simp at hs
  refine (hc k' o' h1 (by omega) ?_).trans (World.cell?_of_block ?_)
  · rcases hat with h | h
    · exact h3 g' (h.symm.trans rfl)
    · have : g' = x := by simpa [Value.ownBlock] using h
      omega
  · rw [hgrow.block k' (by simp; omega) (by intro h; exact h3 k' h.symm rfl), Below.heap_alloc _ _ k' h2]
theorem grown_cells' {X w5 : World} {v : Value} {n cap' g' x B : Nat} (hgrow : X.grownBy w5 v.ownBlock) (hat : (Value.slice (some ⟨g', 0, none⟩) n cap').ownBlock = v.ownBlock ∨ (Value.slice (some ⟨g', 0, none⟩) n cap').ownBlock = some x) (hx : X.heap.size ≤ x) :
    ∀ W : World, w5.heap.size ≤ W.heap.size → (∀ k o, B ≤ k → k < w5.heap.size → k ≠ g' → W.cell? ⟨k, o, none⟩ = w5.cell? ⟨k, o, none⟩) → ∀ k' o, B ≤ k' → k' < X.heap.size → (∀ j, v.ownBlock = some j → k' ≠ j) → W.cell? ⟨k', o, none⟩ = X.cell? ⟨k', o, none⟩ := by
  intro W hW hc k' o' h1 h2 h3
  have hs := hgrow.size
  refine (hc k' o' h1 (by omega) ?_).trans (World.cell?_of_block ?_)
  · rcases hat with h | h
    · exact h3 g' (h.symm.trans rfl)
    · have : g' = x := by simpa [Value.ownBlock] using h
      omega
  · rw [hgrow.block k' h2 (by intro h; exact h3 k' h.symm rfl)]
theorem pathAt_of {B : Nat} {W : World} {a : Option Addr} {c : Nat} {p : List Nat} {k : Nat} (h : IntsF B W (.slice a (p.length + 1) c) (pathInts p ++ [(k : Int)])) : PathAt B W (p ++ [k]) (.slice a (p.length + 1) c) :=
  ⟨a, c, by simp, by simpa using h⟩
abbrev psK (p : List Nat) (f : Fo) (k : Nat) : List (List Nat) := (seqAt p 0 (f.take k)).map (·.p)
theorem psK_succ {p : List Nat} {f : Fo} {k : Nat} {h : Hd} {ks r : Fo} (e : f.drop k = .cons h ks r) : psK p f (k + 1) = (psK p f k ++ [p ++ [k]]) ++ (seqAt (p ++ [k]) 0 ks).map (·.p) := by
  unfold psK
  rw [seqAt_take_succ p 0 e]
  simp

set_option maxRecDepth 100000 in
set_option maxHeartbeats 8000000 in
theorem pathsOf_of (f : Fo) (p : List Nat) (v pv : Value) (w : World) (hl : Lies w v f) (hp : IntsLie w pv (pathInts p)) (hpl : p.length + f.size ≤ 1000000)
    (HT : ∀ hd ks k, k < f.len → f.drop k = .cons hd ks (f.drop (k + 1)) → ∀ v pv w, Lies w v ks → IntsLie w pv (pathInts (p ++ [k])) → Calls Tryz.prog 100 #[v, pv] w fun e w' => ∃ a c, e = .returned (.slice a ((seqAt (p ++ [k]) 0 ks).map (·.p)).length c) ∧ PathsO w.heap.size w' (.slice a ((seqAt (p ++ [k]) 0 ks).map (·.p)).length c) ((seqAt (p ++ [k]) 0 ks).map (·.p)) ∧ Below w.heap.size w w') :
    Calls Tryz.prog 100 #[v, pv] w fun e w' => ∃ a c, e = .returned (.slice a ((seqAt p 0 f).map (·.p)).length c) ∧ PathsO w.heap.size w' (.slice a ((seqAt p 0 f).map (·.p)).length c) ((seqAt p 0 f).map (·.p)) ∧ Below w.heap.size w w' := by
  obtain ⟨i0, hi, hz0, hz1, hz2⟩ := info_parts info_ints2
  have hlen := lies_len hl
  have hlf := Fo.len_le_size f
  have HL := Lib.hid hl
  have HP := Lib.hid hp
  have HT' := Lib.hid HT
  have BL := Lib.hid (fun (k : Nat) W (hW : Below w.heap.size w W) => below_any pv (pathInts p) (k : Int) W (ints_below hp hW) (by simp; omega))
  have HK := Lib.hid (show ∀ k, (psK p f k).length ≤ f.size from fun k => by
    have h1 : (psK p f k).length = (f.take k).size := by unfold psK; rw [List.length_map, seqAt_len]
    have h2 := congrArg Fo.size (Fo.take_app_drop k f)
    rw [Fo.size_app] at h2
    omega)
  obtain ⟨av, cv, rfl⟩ := lies_form hl
  obtain ⟨pa, pc, rfl⟩ := ints_form hp
  simp only [List.length_map] at BL HP
  clear hl hp HT
  go_enter Tryz.func100, Tryz.ntmps100
  go_wp2_with fail
  go_loopw [5, 6] (fun v5 i wr => ∃ (k g : Nat) (a : Option Addr) (cap : Nat) (cs : List Value), i = .int .i64 k ∧ k ≤ f.len ∧ v5 = .slice a (psK p f k).length cap ∧ (∀ b, (Value.slice a (psK p f k).length cap).ownBlock = some b → b = g) ∧ wr.ownsRow w.heap.size 41 1 (.slice a (psK p f k).length cap) (psK p f k).length cs ∧ StabP w.heap.size g wr (psK p f k) cs ∧ Below w.heap.size w wr) (fun _ i _ => f.len - (intOf i).toNat)
  case atStart =>
    have h0 : psK p f 0 = [] := by unfold psK; cases f <;> rfl
    refine ⟨0, 0, none, 0, [], rfl, Nat.zero_le _, by rw [h0]; rfl, fun b hb => by simp [Value.ownBlock] at hb, by rw [h0]; exact ⟨rfl, .inl ⟨rfl, rfl⟩⟩, ?_, Below.refl _ _⟩
    intro W _ _
    rw [h0]
    exact .nil
  case round =>
    obtain ⟨k, g, a, cap, cs, rfl, hk, rfl, hg, hown, hst, hbw⟩ := hrel
    have hsw := hbw.size
    have HOWN := Lib.hid hown
    have HST := Lib.hid hst
    have HG := Lib.hid hg
    have hgl := Lib.hid (fun b (hb : (Value.slice a (psK p f k).length cap).ownBlock = some b) => hown.lt b hb)
    clear hown hst hg
    have hpk := HK.out k
    by_cases hlt : k < f.len
    · have dk : decide (k < f.len) = true := by simpa using hlt
      obtain ⟨b, o, cap0, hs, hcap, -, hb, hrow⟩ := lies_row HL.out (by omega)
      simp only [Value.slice.injEq] at hs
      obtain ⟨rfl, -, rfl⟩ := hs
      obtain ⟨hd, ks, e, -, vk, q6, hlk⟩ := row_get hrow hlt
      obtain ⟨ak, ck, rfl⟩ := lies_form hlk
      have HE := Lib.hid (psK_succ (p := p) e)
      have HC := Lib.hid (fun pv W (hW : Below w.heap.size w W) hp => HT'.out hd ks k hlt e _ pv W (lies_below hlk hW) hp)
      have hkq : ((seqAt (p ++ [k]) 0 ks).map (·.p)).length ≤ f.size := by
        have := HK.out (k + 1)
        rw [HE.out] at this
        simp only [List.length_append] at this
        omega
      generalize (seqAt (p ++ [k]) 0 ks).map (·.p) = qs at *
      clear hlk e hrow HT'
      generalize hps : psK p f k = ps at *
      clear hps
      go_wp2_with fail
      refine (BL.out k wr hbw).mono ?_
      rintro e X1 ⟨a1, c1, rfl, hi1, hb1⟩
      have HI1 := Lib.hid hi1
      have hs1 := hb1.size
      have O1 := Lib.hid (owns_belowV HOWN.out hb1)
      have B1 := hbw.trans (hb1.mono hsw)
      have hnew := World.alloc_heap_new X1 (.cells #[.slice a1 (p.length + 1) c1] 41)
      have hbx1 := B1.size
      have C1 := Lib.hid ((bcell hb1).1)
      clear hi1 hb1
      go_upto_region 6 with fail
      go_wp2_with (at_builtin; refine wpList_append_own_at _ rfl _ _ 49 rfl w.heap.size 41 i0 _ 1 24 Tryz.underlying49 hi hz0 hz1 hz2 rfl (by decide) _ ps.length cs rfl (O1.out.alloc _) ⟨X1.heap.size, 0, none⟩ 1 1 [.slice a1 (p.length + 1) c1] rfl rfl ?c1 ?c2 ?c3 ?c4 ?c5 ?stop)
      case c1 =>
        intro j u hj
        rw [Go.WideShapes.add_plain]
        cases j with
        | zero => simp at hj; subst hj; exact cell_of_block hnew rfl
        | succ j => simp at hj
      case c2 => intro u hu; simp at hu; subst hu; rfl
      case c3 => unfold maxLen; omega
      case c4 => omega
      case c5 => simp; omega
      case stop =>
        intro v' w3 hown' hgrow _ hat
        obtain ⟨g', cap', rfl⟩ : ∃ g cap, v' = .slice (some ⟨g, 0, none⟩) (ps.length + 1) cap := by
          rcases hown'.2 with ⟨_, h0⟩ | ⟨g, cap, cur, hv, _⟩
          · omega
          · exact ⟨g, cap, hv⟩
        have hs3 := hgrow.size
        simp at hs3
        have hcell := grown_cells (B := w.heap.size) hgrow hat (by simp)
        have hg3 : g' < w3.heap.size ∧ w.heap.size ≤ g' ∧ (g' < X1.heap.size → (Value.slice a ps.length cap).ownBlock = some g') := by
          have := hown'.lt g' rfl
          refine ⟨this.2, this.1, fun h => ?_⟩
          rcases hat with e | e
          · exact e.symm.trans rfl
          · have : g' = X1.heap.size + 1 := by simpa [Value.ownBlock] using e
            omega
        have S3 := Lib.hid (show StabP w.heap.size g' w3 (ps ++ [p ++ [k]]) (cs ++ [.slice a1 (p.length + 1) c1]) by
          intro W hW hc
          have hcc := hcell W hW hc
          have hk : Keeps wr.heap.size X1 W := ⟨by omega, fun k' o' h1 h2 => hcc k' o' (by omega) h2 (fun j hj => by have := (hgl.out j hj).2; omega)⟩
          exact all2_append (HST.out W (by omega) fun k' o' h1 h2 h3 => (hcc k' o' h1 (by omega) (fun j hj => by rw [HG.out j hj]; exact h3)).trans (C1.out k' o' h2)) (.cons ((pathAt_of HI1.out).keeps hk |>.mono (by omega)) .nil))
        have O3 := Lib.hid (show w3.ownsRow w.heap.size 41 1 (.slice (some ⟨g', 0, none⟩) (ps.length + 1) cap') (ps.length + 1) (cs ++ [.slice a1 (p.length + 1) c1]) from hown')
        have B3 := (B1.alloc hbx1 (.cells #[.slice a1 (p.length + 1) c1] 41)).grown hgrow (by simp; omega) (fun k hk => (hgl.out k hk).1)
        have I3 := Lib.hid (show IntsLie w3 (.slice a1 (p.length + 1) c1) (pathInts (p ++ [k])) by
          have hk : Keeps wr.heap.size X1 w3 := ⟨by omega, fun k' o' h1 h2 => hcell w3 (Nat.le_refl _) (fun _ _ _ _ _ => rfl) k' o' (by omega) h2 (fun j hj => by have := (hgl.out j hj).2; omega)⟩
          have := intsF_lies (intsF_keeps HI1.out hk)
          simpa using this)
        have r6 : w3.cell? ⟨b, o + k * 7 + 6, none⟩ = some (.slice ak ks.len ck) := (B3.cell (p := ⟨b, o + k * 7 + 6, none⟩) hb).trans q6
        have hb3 : b < w3.heap.size := by have := B3.size; omega
        clear hown' hgrow hat hcell hnew q6
        go_wp2_with fail
        refine (HC.out _ w3 B3 I3.out).mono ?_
        rintro e X4 ⟨a4, c4, rfl, ⟨cs4, hown4, hall4⟩, hb4⟩
        have hs4 := hb4.size
        have B4 := B3.trans (hb4.mono B3.size)
        have O4 := Lib.hid (owns_belowV O3.out hb4)
        have C4 := Lib.hid ((bcell hb4).1)
        have S4 := Lib.hid (S3.out.next (W1 := X4) (g' := g') hs4 (fun k o _ h2 _ => C4.out k o h2) (.inl rfl))
        have A4 := Lib.hid hall4
        have hl4 := all2_len hall4
        have hbx4 := B4.size
        clear hb4 hall4 B3
        rcases hown4.2 with ⟨h1, h2⟩ | ⟨g4, cap4, cur4, h1, h3, h4, h5, h6, h7, h8⟩
        · obtain rfl : qs = [] := List.eq_nil_of_length_eq_zero h2
          simp only [List.length_nil, Value.slice.injEq, true_and] at h1
          obtain ⟨rfl, rfl⟩ := h1
          have HE2 := Lib.hid (show psK p f (k + 1) = ps ++ [p ++ [k]] by rw [HE.out]; simp)
          simp only [List.length_nil]
          clear hown4
          go_wp2_with (at_builtin; refine Lib.wpList_append_run _ rfl _ _ _ _ rfl _ _ rfl rfl _ _ (append_none 49 _ 41 i0 1 Tryz.underlying49 hi _ _ _ _ O4.out) ?_)
          go_roundw
          case rel => exact ⟨k + 1, g', some ⟨g', 0, none⟩, cap', _, by go_num, by omega, by rw [HE2.out]; simp, fun b hb => by simpa [Value.ownBlock] using hb.symm, by rw [HE2.out]; simpa using O4.out, by rw [HE2.out]; exact S4.out, B4⟩
          case measure => simp [intOf]; omega
        · simp only [Value.slice.injEq, true_and] at h1
          obtain ⟨rfl, rfl⟩ := h1
          have hcs := hown4.cells (g := g4) rfl
          have hl5 := hown4.1
          have h4l := (hown4.lt g4 rfl).2
          clear hown4
          go_wp2_with (at_builtin; refine wpList_append_own_at _ rfl _ _ 49 rfl w.heap.size 41 i0 _ 1 24 Tryz.underlying49 hi hz0 hz1 hz2 rfl (by decide) (.slice (some ⟨g', 0, none⟩) (ps.length + 1) cap') (ps.length + 1) (cs ++ [Value.slice a1 (p.length + 1) c1]) rfl O4.out ⟨g4, 0, none⟩ qs.length _ cs4 rfl (by omega) hcs ?c2 ?c3 ?c4 ?c5 ?stop)
          case c2 =>
            intro u hu
            obtain ⟨j, hj, rfl⟩ := List.getElem_of_mem hu
            obtain ⟨c, hc, hpa⟩ := all2_get (d := []) A4.out j (by omega)
            rw [List.getElem?_eq_getElem hj] at hc
            obtain ⟨x1, x2, hx, -⟩ := hpa
            rw [Option.some.inj hc, hx]; rfl
          case c3 => unfold maxLen; omega
          case c4 => omega
          case c5 => omega
          case stop =>
            intro v' w5 hown' hgrow _ hat
            obtain ⟨g5, cap5, rfl⟩ : ∃ g cap, v' = .slice (some ⟨g, 0, none⟩) (ps.length + 1 + qs.length) cap := by
              rcases hown'.2 with ⟨_, h0⟩ | ⟨g, cap, cur, hv, _⟩
              · omega
              · exact ⟨g, cap, hv⟩
            have hs5 := hgrow.size
            have hcell := grown_cells' (B := w.heap.size) hgrow hat (Nat.le_refl _)
            have hlen5 : ((ps ++ [p ++ [k]]) ++ qs).length = ps.length + 1 + qs.length := by simp; omega
            have S5 := Lib.hid (show StabP w.heap.size g5 w5 ((ps ++ [p ++ [k]]) ++ qs) ((cs ++ [.slice a1 (p.length + 1) c1]) ++ cs4) by
              intro W hW hc
              have hcc := hcell W hW hc
              have hk : Keeps w3.heap.size X4 W := ⟨by omega, fun k' o' h1 h2 => hcc k' o' (by omega) h2 (fun j hj => by
                have : g' = j := by simpa [Value.ownBlock] using hj
                omega)⟩
              exact all2_append (S4.out W (by omega) fun k' o' h1 h2 h3 => hcc k' o' h1 h2 (fun j hj => by
                have : g' = j := by simpa [Value.ownBlock] using hj
                omega)) (forall2_next (fun _ _ h => (PathAt.keeps h hk).mono (by omega)) A4.out))
            have O5 := Lib.hid (show w5.ownsRow w.heap.size 41 1 (.slice (some ⟨g5, 0, none⟩) (ps.length + 1 + qs.length) cap5) (ps.length + 1 + qs.length) ((cs ++ [.slice a1 (p.length + 1) c1]) ++ cs4) by simpa using hown')
            have B5 := B4.grown hgrow hbx4 (fun k hk => by
              have : g' = k := by simpa [Value.ownBlock] using hk
              omega)
            clear hown' hgrow hat hcell
            go_wp2_with fail
            go_roundw
            case rel => exact ⟨k + 1, g5, some ⟨g5, 0, none⟩, cap5, _, by go_num, by omega, by rw [HE.out, hlen5], fun b hb => by simpa [Value.ownBlock] using hb.symm, by rw [HE.out, hlen5]; exact O5.out, by rw [HE.out]; exact S5.out, B5⟩
            case measure => simp [intOf]; omega
    · have dk : decide (k < f.len) = false := by simpa using hlt
      obtain rfl : k = f.len := by omega
      have he : psK p f f.len = (seqAt p 0 f).map (·.p) := by unfold psK; rw [take_all]
      have HF := Lib.hid (show PathsO w.heap.size wr (.slice a (psK p f f.len).length cap) (psK p f f.len) from ⟨cs, HOWN.out, HST.out wr (Nat.le_refl _) (fun _ _ _ _ _ => rfl)⟩)
      rw [he] at HF
      go_wp2_with fail
      go_ret
      exact ⟨a, cap, by rw [← he]; rfl, HF.out, hbw⟩

theorem pathsOf_any : ∀ (N : Nat) (f : Fo), f.size ≤ N → ∀ (p : List Nat), p.length + f.size ≤ 1000000 → ∀ (v pv : Value) (w : World), Lies w v f → IntsLie w pv (pathInts p) →
    Calls Tryz.prog 100 #[v, pv] w fun e w' => ∃ a c, e = .returned (.slice a ((seqAt p 0 f).map (·.p)).length c) ∧ PathsO w.heap.size w' (.slice a ((seqAt p 0 f).map (·.p)).length c) ((seqAt p 0 f).map (·.p)) ∧ Below w.heap.size w w' := by
  intro N
  induction N with
  | zero =>
    intro f hf p hb v pv w hl hp
    exact pathsOf_of f p v pv w hl hp hb (fun h ks k hj _ => by have := Fo.len_le_size f; omega)
  | succ N ih =>
    intro f hf p hb v pv w hl hp
    refine pathsOf_of f p v pv w hl hp hb (fun hd ks k hj e v pv w hk hp => ?_)
    have := kid_size e
    exact ih ks (by omega) (p ++ [k]) (by simp; omega) v pv w hk hp
theorem PathsO.paths {B : Nat} {W : World} {v : Value} {ps : List (List Nat)} (h : PathsO B W v ps) : PathsF B W v ps := by
  obtain ⟨cs, hown, hall⟩ := h
  have hl := all2_len hall
  rcases hown.2 with ⟨rfl, h0⟩ | ⟨g, cap, cur, rfl, h1, h2, h3, h4, h5, h6⟩
  · exact ⟨none, 0, by rw [h0], .inl (List.eq_nil_of_length_eq_zero h0)⟩
  · refine ⟨_, cap, rfl, .inr ⟨g, rfl, h3, h1, (hown.lt g rfl).2, fun k hk => ?_⟩⟩
    obtain ⟨c, hc, hp⟩ := all2_get (d := []) hall k hk
    have := hown.cells (g := g) rfl k c hc
    rw [Go.WideShapes.add_plain, Nat.zero_add] at this
    exact ⟨c, this, hp⟩
end Go.Proofs.YtcgedpfolloinaaGreat

namespace Go.Proofs.YtcgedpfolloinaaGreat
open Go.RowKit

/-- what At gives. -/
def atV (f : Fo) (p : List Int) : Hd × Fo := if atErr f p = 0 then (placeF f p).getD (zeroHd, .nil) else (zeroHd, .nil)
theorem at_res {w w' : World} {f : Fo} {p : List Int} {e : Ending} (h : AtRes w f p e w') : ∃ aa ca ak ck, e = .returned (.tuple #[aggOf (atV f p).1 aa ca ak (atV f p).2.len ck, .int .i64 (atErr f p)]) ∧ AttrsLie w' (.slice aa (atV f p).1.ats.length ca) (atV f p).1.ats ∧ Lies w' (.slice ak (atV f p).2.len ck) (atV f p).2 ∧ Below w.heap.size w w' := by
  obtain ⟨h, ks, aa, ca, ak, ck, rfl, hA, hK, hor, hb⟩ := h
  have hv : atV f p = (h, ks) := by
    unfold atV
    rcases hor with ⟨h1, h2⟩ | ⟨h1, rfl, rfl⟩
    · rw [if_pos h1, h2]; rfl
    · rw [if_neg h1]
  rw [hv]
  exact ⟨aa, ca, ak, ck, rfl, attrsF_lies hA, liesF_lies hK, hb⟩

end Go.Proofs.YtcgedpfolloinaaGreat

namespace Go.Proofs.YtcgedpfolloinaaGreat
open Go.RowKit

set_option maxRecDepth 100000 in
set_option maxHeartbeats 2000000 in
theorem chosen_any (f : Fo) (v : Value) (m k : Nat) (x : Vis) (w : World) (hl : Lies w v f) (hs : f.size ≤ 100000) (hm : m ≤ 65535) (hx : (seqAt [] 0 f)[k]? = some x) (hk : Int.tmod (m : Int) (f.size : Int) = (k : Int)) :
    Calls Tryz.prog 61 #[v, .int .u16 m] w fun e w' => ∃ a c, e = .returned (.slice a x.p.length c) ∧ IntsF w.heap.size w' (.slice a x.p.length c) (pathInts x.p) ∧ Below w.heap.size w w' := by
  have PO := Lib.hid (pathsOf_any _ f (Nat.le_refl _) [] (by simp; omega) v (.slice none 0 0) w hl (.inl ⟨_, _, rfl, rfl⟩))
  have len := seqAt_len f [] 0
  have hkn : k < f.size := by rw [← len]; exact (List.getElem?_eq_some_iff.1 hx).1
  have g1 := Lib.hid (show ((seqAt [] 0 f).map (·.p)).getD k [] = x.p by simp [List.getD_eq_getElem?_getD, hx])
  have hL : ((seqAt [] 0 f).map (·.p)).length = f.size := by rw [List.length_map, len]
  obtain ⟨av, cv, rfl⟩ := lies_form hl
  clear hl hx len
  generalize (seqAt [] 0 f).map (·.p) = L at *
  have e2n : decide (0 < f.size) = true := by simp; omega
  have HN := Lib.hid hL
  rw [hL] at PO
  generalize f.size = n at *
  clear hL
  go_enter Tryz.func61, Tryz.ntmps61
  go_wp2_with fail
  refine PO.out.mono ?_
  rintro e X1 ⟨a1, c1, rfl, hO, hb1⟩
  rw [← HN.out] at hO
  obtain ⟨a2, c2, e, i⟩ := hO.paths
  simp only [Value.slice.injEq, true_and] at e
  obtain ⟨rfl, rfl⟩ := e
  rcases i with i | ⟨b, rfl, hcp, hB, hb, hc⟩
  · have := HN.out
    rw [i] at this; simp at this; omega
  obtain ⟨c', q1, a3, c3, rfl, i3⟩ := hc k (by rw [HN.out]; omega)
  rw [g1.out] at q1 i3
  have HI := Lib.hid i3
  clear hc hO i3 hcp hB
  go_wp2_with fail
  go_ret
  exact ⟨a3, c3, rfl, HI.out, hb1⟩
end Go.Proofs.YtcgedpfolloinaaGreat

namespace Go.Proofs.YtcgedpfolloinaaGreat
open Go.RowKit

theorem at_ok {w w' : World} {f : Fo} {p : List Int} {e : Ending} {h : Hd} {ks : Fo} (he : atErr f p = 0) (hp : placeF f p = some (h, ks)) (H : AtRes w f p e w') :
    ∃ aa ca ak ck, e = .returned (.tuple #[aggOf h aa ca ak ks.len ck, .int .i64 0]) ∧ AttrsLie w' (.slice aa h.ats.length ca) h.ats ∧ Lies w' (.slice ak ks.len ck) ks ∧ Below w.heap.size w w' := by
  obtain ⟨aa, ca, ak, ck, rfl, h1, h2, h3⟩ := at_res H
  have hv : atV f p = (h, ks) := by unfold atV; rw [if_pos he, hp]; rfl
  rw [hv] at h1 h2 ⊢
  rw [he]
  exact ⟨aa, ca, ak, ck, rfl, h1, h2, h3⟩

end Go.Proofs.YtcgedpfolloinaaGreat

namespace Go.Proofs.YtcgedpfolloinaaGreat
open Go.RowKit

/-- the forest at a path. -/
def goTo : Fo → List Nat → Option Fo
  | f, [] => some f
  | f, i :: q => match nth f i with
    | some (_, ks) => goTo ks q
    | none => none
/-- tree number i has other kids. -/
def setK (f : Fo) (i : Nat) (h : Hd) (x : Fo) : Fo := (f.take i).app (.cons h x (f.drop (i + 1)))
/-- the forest at a path is another one. -/
def changeAt : Fo → List Nat → Fo → Fo
  | _, [], x => x
  | f, i :: q, x => match nth f i with
    | some (h, ks) => setK f i h (changeAt ks q x)
    | none => f
/-- n trees from i on are others. -/
def spl (g : Fo) (i n : Nat) (b : Fo) : Fo := (g.take i).app (b.app (g.drop (i + n)))
theorem goTo_snoc : ∀ (q : List Nat) (f : Fo) {g : Fo} {i : Nat} {h : Hd} {ks : Fo}, goTo f q = some g → nth g i = some (h, ks) → goTo f (q ++ [i]) = some ks
  | [], f, g, i, h, ks, e, e2 => by
    cases e
    simp [goTo, e2]
  | a :: q, f, g, i, h, ks, e, e2 => by
    simp only [List.cons_append, goTo] at e ⊢
    cases hn : nth f a with
    | none => rw [hn] at e; cases e
    | some x =>
      rw [hn] at e
      exact goTo_snoc q x.2 e e2
theorem changeAt_snoc : ∀ (q : List Nat) (f : Fo) {g : Fo} {i : Nat} {h : Hd} {ks : Fo} (x : Fo), goTo f q = some g → nth g i = some (h, ks) → changeAt f (q ++ [i]) x = changeAt f q (setK g i h x)
  | [], f, g, i, h, ks, x, e, e2 => by
    cases e
    simp [changeAt, e2]
  | a :: q, f, g, i, h, ks, x, e, e2 => by
    simp only [List.cons_append, goTo, changeAt] at e ⊢
    cases hn : nth f a with
    | none => simp [hn] at e
    | some y =>
      rw [hn] at e
      exact congrArg (setK f a y.1) (changeAt_snoc q y.2 x e e2)
theorem nth_take : ∀ (f : Fo) (i j : Nat), nth (f.take i) j = if j < i then nth f j else none
  | .nil, i, j => by cases i <;> simp [Fo.take, nth]
  | .cons h ks r, 0, j => by simp [Fo.take, nth]
  | .cons h ks r, i + 1, 0 => by simp [Fo.take, nth]
  | .cons h ks r, i + 1, j + 1 => by simp [Fo.take, nth, nth_take r i j]
theorem nth_dropped : ∀ (f : Fo) (i j : Nat), nth (f.drop i) j = nth f (i + j)
  | .nil, i, j => by rw [Fo.drop_nil]; rfl
  | .cons h ks r, 0, j => by simp [Fo.drop]
  | .cons h ks r, i + 1, j => by
    rw [show i + 1 + j = (i + j) + 1 by omega]
    simp only [Fo.drop, nth]
    exact nth_dropped r i j
theorem nth_setK {f : Fo} {i : Nat} (hi : i < f.len) (h : Hd) (x : Fo) (j : Nat) : nth (setK f i h x) j = if j = i then some (h, x) else nth f j := by
  unfold setK
  rw [nth_app, len_take f i (by omega), nth_take]
  by_cases h1 : j < i
  · rw [if_pos h1, if_pos h1, if_neg (by omega)]
  · rw [if_neg h1]
    by_cases h2 : j = i
    · subst h2
      rw [if_pos rfl, Nat.sub_self]; rfl
    · rw [if_neg h2]
      obtain ⟨m, rfl⟩ : ∃ m, j = i + 1 + m := ⟨j - i - 1, by omega⟩
      rw [show i + 1 + m - i = m + 1 by omega]
      simp only [nth]
      rw [nth_dropped]
theorem len_setK {f : Fo} {i : Nat} (hi : i < f.len) (h : Hd) (x : Fo) : (setK f i h x).len = f.len := by
  unfold setK
  rw [Fo.len_app, len_take f i (by omega)]
  simp only [Fo.len]
  rw [Fo.len_drop]
  omega
theorem setK_self {f : Fo} {i : Nat} {h : Hd} {ks : Fo} (e : nth f i = some (h, ks)) : setK f i h ks = f := by
  refine fo_ext fun j => ?_
  rw [nth_setK (nth_lt e)]
  by_cases hj : j = i
  · subst hj; rw [if_pos rfl, e]
  · rw [if_neg hj]
theorem changeAt_self : ∀ (q : List Nat) (f : Fo) {g : Fo}, goTo f q = some g → changeAt f q g = f
  | [], f, g, e => by cases e; rfl
  | a :: q, f, g, e => by
    simp only [goTo, changeAt] at e ⊢
    cases hn : nth f a with
    | none => simp [hn] at e
    | some y =>
      rw [hn] at e
      simp only
      rw [changeAt_self q y.2 e]
      exact setK_self hn
end Go.Proofs.YtcgedpfolloinaaGreat
