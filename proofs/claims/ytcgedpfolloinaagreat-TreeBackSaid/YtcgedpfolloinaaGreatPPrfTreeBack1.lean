/- What the proof of PrfTreeBack rests on, part 1 of 10. -/
import Derived.Test.YtcgedpfolloinaaGreatRows
import Derived.WalkKit
import Derived.Deep.QuietTactic
import Derived.StillTail
import Derived.WalkSpells
import Derived.WalkLawsBesides
import Derived.BigQuiet
import Derived.Outline
import Derived.Lib.Hide
import Derived.Laws.EntriesVeiled
import Derived.OpenShut
import Derived.ProofKit
import Derived.ChangeOld
import Derived.Deep.SlicePairs
namespace Go.Proofs.YtcgedpfolloinaaGreat
open Go

section
variable {P : Program} {ops : Array Oper} {md : Region.Mode} {C : World → Prop}

/-- The head comes first, whatever is drawn; each of its operations is quiet. -/
def headQ (P : Program) (md : Region.Mode) (ops : Array Oper) (C : World → Prop) (n : Nat) (L : Array Bool → Act → Prop) : Nat → Array Bool → Act → Prop
  | 0, ls, a => L ls a
  | f + 1, ls, a => Region.ready md ops ls ≠ [] ∧ ∀ i ∈ Region.ready md ops ls, i < n ∧ qOp P ops C i (headQ P md ops C n L f (ls.setIfInBounds i true)) a

theorem any_of_headQ {n g : Nat} {L : Array Bool → Act → Prop} {Q' : Exit → Act → World → Prop} (hL : ∀ ls a w, C w → L ls a → wpAny P md ops Q' g ls a w) :
    ∀ (f : Nat) (ls : Array Bool) (a : Act) (w : World), C w → headQ P md ops C n L f ls a → wpAny P md ops Q' (f + g) ls a w
  | 0, ls, a, w, hw, h => by rw [Nat.zero_add]; exact hL _ _ _ hw h
  | f + 1, ls, a, w, hw, h => by
    rw [Nat.add_right_comm]
    exact ⟨fun h0 => absurd h0 h.1, fun i hi => wpOp_of_qOp hw (fun a' w' hw' k => any_of_headQ hL f _ a' w' hw' k) (h.2 i hi).2⟩

theorem headQ_take {n i : Nat} {oi : Oper} {v : Value} {L : Array Bool → Act → Prop} (hi : ops[i]? = some oi) (hsel : ∀ (j : Nat) (o : Oper) cs b, ops[j]? = some o → o.op ≠ .select cs b)
    (hs : Region.sinkB md ops n = true) (hc : Region.chainB md ops n = true) (hn : n < ops.size) (hin : i < n)
    (hdone : ∀ ls a, L ls a → ∀ j ∈ Region.ready md ops ls, n ≤ j) :
    ∀ (f : Nat) (ls : Array Bool) (a : Act), HeadInv md ops n ls →
      (∀ j oj, ops[j]? = some oj → j ≠ i → ls.getD j true = false → (∀ e ∈ oj.after, Region.binds md e = true → e.on ≠ i) → oi.apart ops oj = true) →
      i ∈ Region.ready md ops ls → YieldsIn P ops C oi v a →
      headQ P md ops C n L f (ls.setIfInBounds i true) (a.put oi.dst v) → headQ P md ops C n L (f + 1) ls a := by
  intro f
  induction f with
  | zero =>
    intro ls a inv _ hr hy H
    have hun := (mem_ready.1 hr).1
    refine ⟨fun h => absurd hr (by simp [h]), fun j hj => ?_⟩
    have hjn : j < n := (Nat.lt_or_ge j n).elim id fun h => absurd hj (tail_waits hs hc hn inv _ i rfl hin hun j h)
    by_cases hji : j = i
    · subst hji; exact ⟨hjn, hy.qOp hi H⟩
    · exact absurd (hdone _ _ H j (ready_mono hj hji)) (by omega)
  | succ f ih =>
    intro ls a inv hfree hr hy H
    have hun := (mem_ready.1 hr).1
    refine ⟨fun h => absurd hr (by simp [h]), fun j hj => ?_⟩
    have hjn : j < n := (Nat.lt_or_ge j n).elim id fun h => absurd hj (tail_waits hs hc hn inv _ i rfl hin hun j h)
    by_cases hji : j = i
    · subst hji; exact ⟨hjn, hy.qOp hi H⟩
    · obtain ⟨hjun, oj, hoj, hall⟩ := mem_ready.1 hj
      have hnot : ∀ e ∈ oj.after, Region.binds md e = true → e.on ≠ i := fun e he hb hq => by
        have h3 := hall e he hb
        rw [hq, getD_both hun] at h3
        cases h3
      have h2 := qOp_put hoj (hfree j oj hoj hji hjun hnot) (fun cs b => hsel i oi cs b hi) (fun cs b => hsel j oj cs b hoj) hy (H.2 j (ready_mono hj hji)).2
      refine ⟨hjn, qOp_mono (fun a' h3 => ih (ls.setIfInBounds j true) a' (inv.set hj hjn) (fun k ok hk hki hu hno => hfree k ok hk hki ?_ hno) (ready_mono hr (Ne.symm hji)) h3.1 ?_) h2⟩
      · by_cases hjk : j = k
        · subst hjk; exact hjun
        · rwa [getD_set_ne true hjk] at hu
      · rw [Array.setIfInBounds_comm _ _ hji]; exact h3.2

theorem headQ_lex {n g : Nat} {Lq : Act → Prop} (hsel : Region.noSelect ops = true) (hs : Region.sinkB md ops n = true) (hc : Region.chainB md ops n = true) (hn : n < ops.size) :
    ∀ (l : List Oper) (k : Nat) (ls : Array Bool) (a : Act), (∀ j, j < l.length → l[j]? = ops[k + j]?) → k + l.length = n → HeadInv md ops n ls →
    Region.lexHead md ops g l.length k ls = true → wpQuiet P ops C Lq l a →
    headQ P md ops C n (fun ls' a' => Region.seqB md ops g n ls' = true ∧ Lq a') l.length ls a
  | [], k, ls, a, _, hk, _, hB, h => by
    obtain rfl : k = n := by simpa using hk
    exact ⟨by simpa [Region.lexHead] using hB, h⟩
  | o :: l, k, ls, a, hl, hk, inv, hB, h => by
    have h0 : ops[k]? = some o := by simpa using (hl 0 (by simp)).symm
    simp only [List.length_cons, Region.lexHead, Bool.and_eq_true] at hB
    obtain ⟨⟨hr, hf⟩, hB'⟩ := hB
    simp only [List.length_cons] at hk
    have hkn : k < n := by omega
    have hr' : k ∈ Region.ready md ops ls := by simpa using hr
    have hq : qOp P ops C k (wpQuiet P ops C Lq l) a := by unfold qOp; simp only [h0]; exact h
    obtain ⟨v, hy, hK⟩ := yieldsIn_of_qOp h0 hq
    exact headQ_take h0 (Region.noSelect_spec hsel) hs hc hn hkn (fun ls' a' hL => seqB_ready hL.1) l.length ls a inv (Region.free_spec h0 hf) hr' hy
      (headQ_lex hsel hs hc hn l (k + 1) _ _ (fun j hj => by have := hl (j + 1) (by simp; omega); simpa [Nat.add_assoc, Nat.add_comm 1 j] using this) (by omega) (inv.set hr' hkn) hB' hK)

/-- A region that draws its order: the first n operations quiet in the class, the rest in their one order. -/
theorem wp_region_quiet_tail {id : Nat} {Q : Exit → Act → World → Prop} {a : Act} {w : World} {l : List Oper} (C : World → Prop) (n : Nat) (hm : P.follows .mixedOrders = true) (hB : Region.lexTailB .any l.toArray n = true)
    (hC : C { w with drawn := w.drawn + 1 }) (h : wpQuiet P l.toArray C (fun a' => ∀ w', C w' → wpList P l.toArray Q (l.drop n) a' w') (l.take n) a) : (Code.region id l.toArray true).wp P Q a w := by
  simp only [Region.lexTailB, Bool.and_eq_true, decide_eq_true_eq] at hB
  obtain ⟨⟨⟨⟨hsel, hn⟩, hs⟩, hc⟩, hlex⟩ := hB
  have hn' : n < l.length := by simpa using hn
  have htl : (l.take n).length = n := by simp; omega
  have hdl : (l.drop n).length = l.toArray.size - n := by simp
  have inv0 : HeadInv .any l.toArray n (Array.replicate l.toArray.size false) :=
    ⟨by simp, fun j oj _ hl => (by rw [getD_replicate_false] at hl; cases hl), fun t _ ht => getD_in (by simpa using ht) (getD_replicate_false _ _)⟩
  have H := headQ_lex (md := .any) (g := l.toArray.size - n) hsel hs hc hn (l.take n) 0 _ a (fun j hj => by
    have hj' : j < n := by rw [htl] at hj; exact hj
    simp [hj']) (by simpa using htl) inv0 (by rw [htl]; exact hlex) h
  refine wp_region_any hm ?_
  have := any_of_headQ (Q' := Q) (g := l.toArray.size - n) (fun ls a' w' hw hL => by
    have := wpAny_of_seq (md := .any) (Q' := Q) (l.drop n) n ls a' w' (fun j => by simp [List.getElem?_drop]) (by rw [hdl]; exact hL.1) (hL.2 w' hw)
    rwa [hdl] at this) _ _ _ _ hC H
  rw [htl, show n + (l.toArray.size - n) = l.toArray.size by omega] at this
  exact this

/-- The same with no tail. -/
theorem wp_region_quiet_all {id : Nat} {Q : Exit → Act → World → Prop} {a : Act} {w : World} {l : List Oper} (C : World → Prop) (hm : P.follows .mixedOrders = true) (hB : Region.lexB .any l.toArray = true)
    (hC : C { w with drawn := w.drawn + 1 }) (h : wpQuiet P l.toArray C (fun a' => ∀ w', C w' → Q .normal a' w') l a) : (Code.region id l.toArray true).wp P Q a w :=
  wp_region_quiet (C := C) hm hB hC (by simpa using h)

/-- The class to use: a world that is as W was, below W's own size. -/
structure Lower (W : World) where
  val : World
  prop : Go.RowKit.Below W.heap.size W val

instance {W : World} : Nonempty (Lower W) := ⟨⟨W, Go.RowKit.Below.refl _ _⟩⟩

@[go_sem] theorem Lower.cell {W : World} (x : Lower W) (b o : Nat) (h : b < W.heap.size) : x.val.cell? ⟨b, o, none⟩ = W.cell? ⟨b, o, none⟩ := x.prop.cell (p := ⟨b, o, none⟩) h
@[go_sem] theorem Lower.frozen {W : World} (x : Lower W) (b o : Nat) (h : b < W.heap.size) : x.val.frozen? ⟨b, o, none⟩ = W.frozen? ⟨b, o, none⟩ := x.prop.frozen (p := ⟨b, o, none⟩) h

/-- A callee's contract in such a world. -/
theorem calls_lower {f : FuncId} {args : Array Value} {W : World} {v : Value} (x : Lower W)
    (h : Calls P f args x.val fun e w' => e = .returned v ∧ Go.RowKit.Below x.val.heap.size x.val w') : Calls P f args x.val fun e w'' => e = .returned v ∧ ∃ y : Lower W, w'' = y.val :=
  h.mono fun _ _ ⟨he, hm⟩ => ⟨he, ⟨_, x.prop.trans (hm.mono x.prop.size)⟩, rfl⟩
end
end Go.Proofs.YtcgedpfolloinaaGreat

namespace Go.Proofs.YtcgedpfolloinaaGreat
open Go.RowKit

theorem ret_int {k : IntKind} {a b : Int} (h : a = b) : Ending.returned (.int k a) = .returned (.int k b) := by rw [h]
theorem ret_bool {a b : Bool} (h : a = b) : Ending.returned (.bool a) = .returned (.bool b) := by rw [h]

theorem bcell {W w1 : World} (hb : Below W.heap.size W w1) : (∀ b o, b < W.heap.size → w1.cell? ⟨b, o, none⟩ = W.cell? ⟨b, o, none⟩) ∧ (∀ b o, b < W.heap.size → w1.frozen? ⟨b, o, none⟩ = W.frozen? ⟨b, o, none⟩) :=
  ⟨fun b o h => hb.cell (p := ⟨b, o, none⟩) h, fun b o h => hb.frozen (p := ⟨b, o, none⟩) h⟩

theorem bdrewN {B : Nat} {a w : World} (h : Below B a w) (n : Nat) : Below B a (w.drewN n) := ⟨h.os, h.tape, h.output, h.size, h.block⟩

/-- One thing more that a call made on top of what was made before it. -/
theorem bbehind {B : Nat} {a w w' : World} (h : Below B a w) (hb : Below w.heap.size w w') (hB : B ≤ w.heap.size) : Below B a w' := h.trans (hb.mono hB)

end Go.Proofs.YtcgedpfolloinaaGreat

namespace Go.Proofs.YtcgedpfolloinaaGreat
open Go.RowKit

/-- a head, its strings as lists of bytes. -/
structure Hd where
  k : Int
  l : List UInt8
  ats : List (List UInt8 × List UInt8)
  n : Int
  d : Int
  x : List UInt8

/-- a forest: nothing, or a tree (its head, its kids) and the trees beside it. -/
inductive Fo where
  | nil
  | cons (h : Hd) (ks r : Fo)


namespace Fo
def len : Fo → Nat
  | nil => 0
  | cons _ _ r => r.len + 1
def drop : Nat → Fo → Fo
  | 0, f => f
  | _ + 1, nil => nil
  | i + 1, cons _ _ r => r.drop i
def take : Nat → Fo → Fo
  | 0, _ => nil
  | _ + 1, nil => nil
  | i + 1, cons h ks r => cons h ks (r.take i)
def app : Fo → Fo → Fo
  | nil, g => g
  | cons h ks r, g => cons h ks (r.app g)
def size : Fo → Nat
  | nil => 0
  | cons _ ks r => ks.size + r.size + 1
def deep : Fo → Nat
  | nil => 0
  | cons _ ks r => max (ks.deep + 1) r.deep

theorem drop_nil : ∀ i, drop i nil = nil
  | 0 => rfl
  | _ + 1 => rfl
theorem drop_lt : ∀ (i : Nat) (f : Fo), i < f.len → ∃ h ks, f.drop i = cons h ks (f.drop (i + 1))
  | _, nil, h => by simp [len] at h
  | 0, cons h ks r, _ => ⟨h, ks, rfl⟩
  | i + 1, cons h ks r, hl => by
    obtain ⟨h', ks', e⟩ := drop_lt i r (by simp [len] at hl; omega)
    exact ⟨h', ks', by simpa [drop] using e⟩
theorem drop_ge : ∀ (i : Nat) (f : Fo), f.len ≤ i → f.drop i = nil
  | i, nil, _ => drop_nil i
  | 0, cons h ks r, hl => by simp [len] at hl
  | i + 1, cons h ks r, hl => by simp [drop]; exact drop_ge i r (by simp [len] at hl; omega)
theorem len_nil {f : Fo} (h : f.len = 0) : f = nil := by
  cases f with
  | nil => rfl
  | cons h ks r => simp [len] at h
theorem len_le_size : ∀ f : Fo, f.len ≤ f.size
  | nil => Nat.le_refl _
  | cons _ ks r => by have := len_le_size r; simp [len, size]; omega
theorem deep_le_size : ∀ f : Fo, f.deep ≤ f.size
  | nil => Nat.le_refl _
  | cons _ ks r => by have := deep_le_size r; have := deep_le_size ks; simp [deep, size]; omega
theorem take_len : ∀ f : Fo, f.take f.len = f
  | nil => rfl
  | cons h ks r => by simp [take, len, take_len r]
theorem take_app_drop : ∀ (i : Nat) (f : Fo), (f.take i).app (f.drop i) = f
  | 0, f => rfl
  | _ + 1, nil => rfl
  | i + 1, cons h ks r => by simp [take, drop, app, take_app_drop i r]
theorem app_nil : ∀ f : Fo, f.app nil = f
  | nil => rfl
  | cons h ks r => by simp [app, app_nil r]
theorem size_app : ∀ f g : Fo, (f.app g).size = f.size + g.size
  | nil, g => by simp [app, size]
  | cons h ks r, g => by simp [app, size, size_app r g]; omega
theorem take_succ : ∀ (i : Nat) (f : Fo) {h : Hd} {ks r : Fo}, f.drop i = cons h ks r → f.take (i + 1) = (f.take i).app (cons h ks nil)
  | 0, nil, _, _, _, e => by simp [drop] at e
  | 0, cons h ks r, _, _, _, e => by simp only [drop, cons.injEq] at e; obtain ⟨rfl, rfl, rfl⟩ := e; simp [take, app]
  | i + 1, nil, _, _, _, e => by simp [drop] at e
  | i + 1, cons h ks r, _, _, _, e => by simp only [drop] at e; simp only [take, app]; rw [← take_succ i r e]
end Fo

/-- attributes in a row of cells: a name, a value, a name, .. -/
def AttrsLie (w : World) (v : Value) (l : List (List UInt8 × List UInt8)) : Prop :=
  (∃ a cap, v = .slice a 0 cap ∧ l = []) ∨ ∃ b off cap, v = .slice (some ⟨b, off, none⟩) l.length cap ∧ l.length ≤ cap ∧ l.length ≤ 4398046510976 ∧ b < w.heap.size ∧
    ∀ k, k < l.length → w.cell? ⟨b, off + k * 2, none⟩ = some (.string ⟨(l.getD k ([], [])).1.toArray⟩) ∧ w.cell? ⟨b, off + k * 2 + 1, none⟩ = some (.string ⟨(l.getD k ([], [])).2.toArray⟩)

/-- a head in six cells. -/
def HdAt (w : World) (h : Hd) (b o : Nat) : Prop :=
  w.cell? ⟨b, o, none⟩ = some (.int .i64 h.k) ∧ w.cell? ⟨b, o + 1, none⟩ = some (.string ⟨h.l.toArray⟩) ∧ (∃ va, w.cell? ⟨b, o + 2, none⟩ = some va ∧ AttrsLie w va h.ats) ∧
  w.cell? ⟨b, o + 3, none⟩ = some (.int .i64 h.n) ∧ w.cell? ⟨b, o + 4, none⟩ = some (.int .i64 h.d) ∧ w.cell? ⟨b, o + 5, none⟩ = some (.string ⟨h.x.toArray⟩)

/-- trees in a row, seven cells a tree. -/
def RowAt (w : World) : Fo → Nat → Nat → Prop
  | .nil, _, _ => True
  | .cons h ks r, b, o => HdAt w h b o ∧ (∃ v, w.cell? ⟨b, o + 6, none⟩ = some v ∧
      ((∃ a cap, v = .slice a 0 cap ∧ ks = .nil) ∨ ∃ b' o' cap, v = .slice (some ⟨b', o', none⟩) ks.len cap ∧ ks.len ≤ cap ∧ ks.len ≤ 2000000000000 ∧ b' < w.heap.size ∧ RowAt w ks b' o')) ∧ RowAt w r b (o + 7)

/-- where a forest lies. -/
def Lies (w : World) (v : Value) (f : Fo) : Prop :=
  (∃ a cap, v = .slice a 0 cap ∧ f = .nil) ∨ ∃ b o cap, v = .slice (some ⟨b, o, none⟩) f.len cap ∧ f.len ≤ cap ∧ f.len ≤ 2000000000000 ∧ b < w.heap.size ∧ RowAt w f b o

theorem rowAt_cons {w : World} {h : Hd} {ks r : Fo} {b o : Nat} : RowAt w (.cons h ks r) b o ↔ HdAt w h b o ∧ (∃ v, w.cell? ⟨b, o + 6, none⟩ = some v ∧ Lies w v ks) ∧ RowAt w r b (o + 7) := Iff.rfl

theorem attrs_below {w w' : World} {v : Value} {l : List (List UInt8 × List UInt8)} (h : AttrsLie w v l) (k : Below w.heap.size w w') : AttrsLie w' v l := by
  rcases h with h | ⟨b, off, cap, h1, h0, h4, h2, h3⟩
  · exact .inl h
  · obtain ⟨hc, _⟩ := bcell k
    exact .inr ⟨b, off, cap, h1, h0, h4, Nat.lt_of_lt_of_le h2 k.size, fun i hi => ⟨(hc _ _ h2).trans (h3 i hi).1, (hc _ _ h2).trans (h3 i hi).2⟩⟩

theorem hdAt_below {w w' : World} {h : Hd} {b o : Nat} (hb : b < w.heap.size) (k : Below w.heap.size w w') (H : HdAt w h b o) : HdAt w' h b o := by
  obtain ⟨hc, _⟩ := bcell k
  obtain ⟨h0, h1, ⟨va, h2, ha⟩, h3, h4, h5⟩ := H
  exact ⟨(hc _ _ hb).trans h0, (hc _ _ hb).trans h1, ⟨va, (hc _ _ hb).trans h2, attrs_below ha k⟩, (hc _ _ hb).trans h3, (hc _ _ hb).trans h4, (hc _ _ hb).trans h5⟩

theorem rowAt_below {w w' : World} (k : Below w.heap.size w w') : ∀ (f : Fo) (b o : Nat), b < w.heap.size → RowAt w f b o → RowAt w' f b o
  | .nil, _, _, _, _ => trivial
  | .cons h ks r, b, o, hb, H => by
    obtain ⟨hc, _⟩ := bcell k
    obtain ⟨h1, ⟨v, h2, h3⟩, h4⟩ := H
    refine ⟨hdAt_below hb k h1, ⟨v, (hc _ _ hb).trans h2, ?_⟩, rowAt_below k r b (o + 7) hb h4⟩
    rcases h3 with h3 | ⟨b', o', cap, e, e0, e3, e1, e2⟩
    · exact .inl h3
    · exact .inr ⟨b', o', cap, e, e0, e3, Nat.lt_of_lt_of_le e1 k.size, rowAt_below k ks b' o' e1 e2⟩

theorem lies_below {w w' : World} {v : Value} {f : Fo} (h : Lies w v f) (k : Below w.heap.size w w') : Lies w' v f := by
  rcases h with h | ⟨b, o, cap, h1, h0, h4, h2, h3⟩
  · exact .inl h
  · exact .inr ⟨b, o, cap, h1, h0, h4, Nat.lt_of_lt_of_le h2 k.size, rowAt_below k f b o h2 h3⟩

theorem rowAt_drop {w : World} {b : Nat} : ∀ (i : Nat) (f : Fo) (o : Nat), RowAt w f b o → RowAt w (f.drop i) b (o + i * 7)
  | 0, f, o, h => by simpa [Fo.drop] using h
  | i + 1, .nil, o, h => trivial
  | i + 1, .cons hd ks r, o, h => by
    have := rowAt_drop i r (o + 7) h.2.2
    rw [show o + 7 + i * 7 = o + (i + 1) * 7 by omega] at this
    exact this

theorem attrs_form {w : World} {v : Value} {l : List (List UInt8 × List UInt8)} (h : AttrsLie w v l) : ∃ a cap, v = .slice a l.length cap := by
  rcases h with ⟨a, cap, rfl, rfl⟩ | ⟨b, o, cap, rfl, _⟩
  · exact ⟨a, cap, rfl⟩
  · exact ⟨_, cap, rfl⟩
theorem attrs_row {w : World} {v : Value} {l : List (List UInt8 × List UInt8)} (h : AttrsLie w v l) (h0 : 0 < l.length) : ∃ b off cap, v = .slice (some ⟨b, off, none⟩) l.length cap ∧ l.length ≤ cap ∧ l.length ≤ 4398046510976 ∧ b < w.heap.size ∧
    ∀ k, k < l.length → w.cell? ⟨b, off + k * 2, none⟩ = some (.string ⟨(l.getD k ([], [])).1.toArray⟩) ∧ w.cell? ⟨b, off + k * 2 + 1, none⟩ = some (.string ⟨(l.getD k ([], [])).2.toArray⟩) := by
  rcases h with ⟨a, cap, rfl, rfl⟩ | h
  · exact absurd h0 (by simp)
  · exact h
theorem lies_form {w : World} {v : Value} {f : Fo} (h : Lies w v f) : ∃ a cap, v = .slice a f.len cap := by
  rcases h with ⟨a, cap, rfl, rfl⟩ | ⟨b, o, cap, rfl, _⟩
  · exact ⟨a, cap, rfl⟩
  · exact ⟨_, cap, rfl⟩
theorem lies_len {w : World} {v : Value} {f : Fo} (h : Lies w v f) : f.len ≤ 2000000000000 := by
  rcases h with ⟨a, cap, rfl, rfl⟩ | ⟨b, o, cap, rfl, _, h, _⟩
  · simp [Fo.len]
  · exact h
theorem lies_row {w : World} {v : Value} {f : Fo} (h : Lies w v f) (h0 : 0 < f.len) : ∃ b o cap, v = .slice (some ⟨b, o, none⟩) f.len cap ∧ f.len ≤ cap ∧ f.len ≤ 2000000000000 ∧ b < w.heap.size ∧ RowAt w f b o := by
  rcases h with ⟨a, cap, rfl, rfl⟩ | h
  · exact absurd h0 (by simp [Fo.len])
  · exact h

/-- what tree number i of a row is. -/
theorem row_get {w : World} {f : Fo} {b o i : Nat} (h : RowAt w f b o) (hi : i < f.len) : ∃ hd ks, f.drop i = .cons hd ks (f.drop (i + 1)) ∧ HdAt w hd b (o + i * 7) ∧ ∃ v, w.cell? ⟨b, o + i * 7 + 6, none⟩ = some v ∧ Lies w v ks := by
  obtain ⟨hd, ks, e⟩ := Fo.drop_lt i f hi
  have := rowAt_drop i f o h
  rw [e] at this
  exact ⟨hd, ks, e, this.1, this.2.1⟩
theorem blk_lt {w : World} {b o : Nat} {v : Value} (h : w.cell? ⟨b, o, none⟩ = some v) : b < w.heap.size := by
  by_cases hb : b < w.heap.size
  · exact hb
  · exfalso
    have : w.heap[b]? = none := Array.getElem?_eq_none (by omega)
    unfold World.cell? at h
    simp [this] at h
end Go.Proofs.YtcgedpfolloinaaGreat

namespace Go.Proofs.YtcgedpfolloinaaGreat
open Go.RowKit

set_option maxHeartbeats 400000 in
theorem abs_any (n : Int) (w : World) (h1 : -9223372036854775808 < n) (h2 : n ≤ 9223372036854775807) :
    Calls Tryz.prog 154 #[.int .i64 n] w fun e w' => e = .returned (.int .i64 (n.natAbs : Int)) ∧ w = w' := by
  by_cases h : n < 0
  · go_enter Tryz.func154, Tryz.ntmps154
    go_wp2
    go_ret
    exact ⟨ret_int (by omega), rfl⟩
  · go_enter Tryz.func154, Tryz.ntmps154
    go_wp2
    go_ret
    exact ⟨ret_int (by omega), rfl⟩

def gcdM (n d : Int) : Int := (Int.gcd n d : Int)

theorem gcd_tmod (x y : Int) : Int.gcd y (x.tmod y) = Int.gcd x y := by
  rw [Int.gcd_comm x y]
  conv => rhs; rw [← Int.tdiv_mul_add_tmod x y, Int.add_comm]
  simp

theorem tmod_lt (x y : Int) (hy : ¬ y = 0) : (x.tmod y).natAbs < y.natAbs := by
  rw [Int.natAbs_tmod]; exact Nat.mod_lt _ (by omega)

set_option maxHeartbeats 400000 in
theorem gcd_any (n d : Int) (w : World) (h1 : -9223372036854775808 < n) (h2 : n ≤ 9223372036854775807)
   (h3 : -9223372036854775808 < d) (h4 : d ≤ 9223372036854775807) :
    Calls Tryz.prog 120 #[.int .i64 n, .int .i64 d] w fun e w' => e = .returned (.int .i64 (gcdM n d)) ∧ Below w.heap.size w w' := by
  go_enter Tryz.func120, Tryz.ntmps120
  go_wp2
  go_loopw [0, 1] (fun a b wr => ∃ x y : Int, a = .int .i64 x ∧ b = .int .i64 y ∧ -9223372036854775808 < x ∧ x ≤ 9223372036854775807 ∧ -9223372036854775808 < y ∧ y ≤ 9223372036854775807 ∧ Int.gcd x y = Int.gcd n d ∧ Below w.heap.size w wr) (fun _ b _ => (intOf b).natAbs)
  case atStart => exact ⟨n, d, rfl, rfl, h1, h2, h3, h4, rfl, Below.refl _ _⟩
  case round =>
    obtain ⟨x, y, rfl, rfl, hx1, hx2, hy1, hy2, hg, hb⟩ := hrel
    have Hg := Lib.hid hg; clear hg
    by_cases hy : y = 0
    · subst hy
      go_wp2_with (go_at_call 154; refine (abs_any _ _ (by omega) (by omega)).mono ?_; rintro e w' ⟨rfl, rfl⟩)
      go_ret
      exact ⟨ret_int (by unfold gcdM; rw [← Hg.out]; simp), hb⟩
    · have hy' : (y != 0) = true := by simpa using hy
      go_wp2
      go_quiet (fail)
      go_wp2
      have a1 := tmod_lt x y hy
      go_roundw
      case rel => exact ⟨y, x.tmod y, rfl, rfl, hy1, hy2, by omega, by omega, by rw [gcd_tmod]; exact Hg.out, bdrewN hb _⟩
      case measure => simp [intOf]; exact Nat.mod_lt _ (by omega)

/-- the error of a number. -/
def chk (n d : Int) : Int := if d < 1 ∨ d > 1000000000 ∨ n < -1000000000 ∨ n > 1000000000 then 3 else if 1 < gcdM n d then 1 else 0

theorem chk3 {n d : Int} (h : d < 1 ∨ d > 1000000000 ∨ n < -1000000000 ∨ n > 1000000000) : chk n d = 3 := if_pos h
theorem chk_in {n d : Int} (h : ¬(d < 1 ∨ d > 1000000000 ∨ n < -1000000000 ∨ n > 1000000000)) : chk n d = if 1 < gcdM n d then 1 else 0 := if_neg h

set_option maxHeartbeats 400000 in
theorem check_any (n d : Int) (w : World) :
    Calls Tryz.prog 73 #[.agg #[.int .i64 n, .int .i64 d]] w fun e w' => e = .returned (.int .i64 (chk n d)) ∧ Below w.heap.size w w' := by
  go_enter Tryz.func73, Tryz.ntmps73
  go_wp2_with (go_at_call 120; refine (gcd_any _ _ _ (by omega) (by omega) (by omega) (by omega)).mono ?_; rintro e w1 ⟨rfl, hb1⟩)
  · go_ret
    exact ⟨ret_int (chk3 (by omega)).symm, (Below.refl _ _).alloc (Nat.le_refl _) _⟩
  · go_ret
    exact ⟨ret_int (by rw [chk_in (by omega), if_pos ‹_›]), ((Below.refl _ _).alloc (Nat.le_refl _) _).trans (hb1.mono (by simp))⟩
  · go_ret
    exact ⟨ret_int (by rw [chk_in (by omega), if_neg (by omega)]), ((Below.refl _ _).alloc (Nat.le_refl _) _).trans (hb1.mono (by simp))⟩
  all_goals
    go_ret
    exact ⟨ret_int (chk3 (by omega)).symm, (Below.refl _ _).alloc (Nat.le_refl _) _⟩
end Go.Proofs.YtcgedpfolloinaaGreat

namespace Go.Proofs.YtcgedpfolloinaaGreat
open Go.RowKit

abbrev letterB (c : UInt8) : Bool := decide (97 ≤ c.toNat ∧ c.toNat ≤ 122)
abbrev digitB (c : UInt8) : Bool := decide (48 ≤ c.toNat ∧ c.toNat ≤ 57)
/-- byte i of a name. -/
def nameAt (l : List UInt8) (i : Nat) : Bool := letterB (l.getD i 0) || (decide (i ≠ 0) && digitB (l.getD i 0))
def namedB (l : List UInt8) : Bool := (List.range l.length).all (nameAt l) && decide (1 ≤ l.length ∧ l.length ≤ 8)
abbrev printB (c : UInt8) : Bool := decide (32 ≤ c.toNat ∧ c.toNat ≤ 126)
def printableB (l : List UInt8) (most : Int) : Bool := l.all printB && decide ((l.length : Int) ≤ most)

/-- no greater, as bytes. -/
def leB (a b : List UInt8) : Bool := Op.bytesLess a b || a == b

/-- the error of attributes; before: the name of the one before. -/
def attrsErr (before : List UInt8) : List (List UInt8 × List UInt8) → Int
  | [] => 0
  | (n, v) :: r => if namedB n = false then 2 else if leB n before = true then 7 else if printableB v 12 = false then 3 else attrsErr n r

/-- something that the kind does not have. -/
def strayB (h : Hd) : Bool :=
  if h.k = 0 then !(decide (h.n = 0 ∧ h.d = 0)) || !(decide (h.x = []))
  else if h.k = 1 then !(decide (h.x = [])) || (!(decide (h.l = [])) || !(decide (h.ats = [])))
  else if h.k = 2 then !(decide (h.n = 0 ∧ h.d = 0)) || (!(decide (h.l = [])) || !(decide (h.ats = [])))
  else true

def elemErr (h : Hd) : Int := if namedB h.l = false then 2 else if 3 < h.ats.length then 4 else attrsErr [] h.ats
/-- the error of a head. -/
def headErr (h : Hd) : Int :=
  if strayB h = true then 1 else if h.k = 1 then chk h.n h.d else if h.k = 2 then (if printableB h.x 24 = true then 0 else 3) else elemErr h

/-- the error of the heads of a forest. -/
def headsErr : Fo → Int
  | .nil => 0
  | .cons h ks r => if headErr h ≠ 0 then headErr h else if h.k ≠ 0 ∧ ks.len ≠ 0 then 1 else if headsErr ks ≠ 0 then headsErr ks else headsErr r
def foErr (f : Fo) : Int := if 400 < f.size then 4 else if 40 < f.deep then 8 else headsErr f

/-- what the statements look at. -/
def greatAt (l : List (List UInt8 × List UInt8)) (i : Nat) : Bool := decide (9 < i) || (decide (60 < (l.getD i ([], [])).1.length) || decide (60 < (l.getD i ([], [])).2.length))
def greatHead (h : Hd) : Bool := (List.range h.ats.length).any (greatAt h.ats) || (decide (60 < h.l.length) || decide (60 < h.x.length))

end Go.Proofs.YtcgedpfolloinaaGreat

namespace Go.Proofs.YtcgedpfolloinaaGreat
open Go.RowKit

theorem wrap64_add_wrap (a b : Int) : wrap64 (wrap64 a + wrap64 b) = wrap64 (a + b) := by
  unfold wrap64; omega
theorem wrap64_id {x : Int} (h1 : -9223372036854775808 ≤ x) (h2 : x ≤ 9223372036854775807) : wrap64 x = x := by unfold wrap64; omega
theorem ret_int' {a b : Int} (h : a = b) : Ending.returned (.int .i64 a) = .returned (.int .i64 b) := by rw [h]
theorem int_val {k : IntKind} {a b : Int} (h : a = b) : Value.int k a = Value.int k b := by rw [h]

/-- sizes of the first trees. -/
theorem size_take_succ {f : Fo} {i : Nat} {h : Hd} {ks r : Fo} (e : f.drop i = .cons h ks r) : (f.take (i + 1)).size = (f.take i).size + ks.size + 1 := by
  rw [Fo.take_succ i f e, Fo.size_app]; simp [Fo.size]; omega

set_option maxHeartbeats 1000000 in
theorem sizeOf_any (m : Nat) : ∀ (f : Fo) (v : Value) (w : World), f.size ≤ m → Lies w v f →
    Calls Tryz.prog 69 #[v] w fun e w' => e = .returned (.int .i64 (wrap64 f.size)) ∧ w = w' := by
  induction m with
  | zero =>
    intro f v w hm hl
    obtain rfl : f = .nil := Fo.len_nil (by have := Fo.len_le_size f; omega)
    obtain ⟨a, cap, rfl⟩ := lies_form hl
    clear hl
    go_enter Tryz.func69, Tryz.ntmps69
    go_wp2_with fail
    go_loop [3, 4] (fun n i => n = .int .i64 0 ∧ i = .int .i64 0) (fun _ _ => 0)
    case atStart => exact ⟨rfl, rfl⟩
    case round =>
      obtain ⟨rfl, rfl⟩ := hrel
      go_wp2_with fail
      go_ret
      exact ⟨ret_int' (by show (0 : Int) = wrap64 0; rw [wrap64_id (by omega) (by omega)]), rfl⟩
  | succ m ih =>
    intro f v w hm hl
    have hlen := lies_len hl
    rcases Nat.eq_zero_or_pos f.len with h0 | h0
    · obtain rfl := Fo.len_nil h0
      obtain ⟨a, cap, rfl⟩ := lies_form hl
      clear hl
      go_enter Tryz.func69, Tryz.ntmps69
      go_wp2_with fail
      go_loop [3, 4] (fun n i => n = .int .i64 0 ∧ i = .int .i64 0) (fun _ _ => 0)
      case atStart => exact ⟨rfl, rfl⟩
      case round =>
        obtain ⟨rfl, rfl⟩ := hrel
        go_wp2_with fail
        go_ret
        exact ⟨ret_int' (by show (0 : Int) = wrap64 0; rw [wrap64_id (by omega) (by omega)]), rfl⟩
    · obtain ⟨b, o, cap, rfl, hcap, -, hb, hrow⟩ := lies_row hl h0
      have HR := Lib.hid hrow
      have IH := Lib.hid ih
      clear hl hrow ih
      go_enter Tryz.func69, Tryz.ntmps69
      go_wp2_with fail
      go_loop [3, 4] (fun n i => ∃ k : Nat, k ≤ f.len ∧ i = .int .i64 k ∧ n = .int .i64 (wrap64 ((f.len - k : Nat) + (f.take k).size : Int))) (fun _ i => f.len - (intOf i).toNat)
      case atStart => exact ⟨0, Nat.zero_le _, rfl, int_val (by simp [Fo.take, Fo.size]; unfold wrap64; omega)⟩
      case round =>
        obtain ⟨k, hk, rfl, rfl⟩ := hrel
        by_cases hlt : k < f.len
        · obtain ⟨hd, ks, e, -, vk, hc, hlk⟩ := row_get HR.out hlt
          have HS := Lib.hid (size_take_succ e)
          have hks : ks.size ≤ m := by
            have h1 := Fo.take_app_drop k f
            have h2 := congrArg Fo.size h1
            rw [Fo.size_app, e] at h2
            simp only [Fo.size] at h2
            omega
          have HC := Lib.hid (IH.out ks vk w hks hlk)
          clear e hlk
          go_wp2_with (go_at_call 69; refine HC.out.mono ?_; rintro e w' ⟨rfl, rfl⟩)
          go_round
          case rel => exact ⟨k + 1, by omega, by go_num, int_val (by rw [wrap64_add_wrap, HS.out]; congr 1; omega)⟩
          case measure => simp [intOf]; omega
        · obtain rfl : k = f.len := by omega
          go_wp2_with fail
          go_ret
          exact ⟨ret_int' (by rw [Fo.take_len]), rfl⟩

/-- the depth as the reference reckons it. -/
def deepL (n : Int) : Fo → Int
  | .nil => n
  | .cons _ ks r => deepL (max n (wrap64 (1 + deepL 0 ks))) r

theorem deepL_take_succ {f : Fo} : ∀ {i : Nat} {h : Hd} {ks r : Fo} (n : Int), f.drop i = .cons h ks r → deepL n (f.take (i + 1)) = max (deepL n (f.take i)) (wrap64 (1 + deepL 0 ks)) := by
  induction f with
  | nil => intro i h ks r n e; rw [Fo.drop_nil] at e; cases e
  | cons h0 k0 r0 _ ih =>
    intro i h ks r n e
    cases i with
    | zero => simp only [Fo.drop, Fo.cons.injEq] at e; obtain ⟨rfl, rfl, rfl⟩ := e; simp [Fo.take, deepL]
    | succ i => simp only [Fo.drop] at e; simp only [Fo.take, deepL]; exact ih _ e

set_option maxHeartbeats 1000000 in
theorem deepOf_any (m : Nat) : ∀ (f : Fo) (v : Value) (w : World), f.size ≤ m → Lies w v f →
    Calls Tryz.prog 70 #[v] w fun e w' => e = .returned (.int .i64 (deepL 0 f)) ∧ w = w' := by
  induction m with
  | zero =>
    intro f v w hm hl
    obtain rfl : f = .nil := Fo.len_nil (by have := Fo.len_le_size f; omega)
    obtain ⟨a, cap, rfl⟩ := lies_form hl
    clear hl
    go_enter Tryz.func70, Tryz.ntmps70
    go_wp2_with fail
    go_loop [3, 4] (fun n i => n = .int .i64 0 ∧ i = .int .i64 0) (fun _ _ => 0)
    case atStart => exact ⟨rfl, rfl⟩
    case round =>
      obtain ⟨rfl, rfl⟩ := hrel
      go_wp2_with fail
      go_ret
      exact ⟨rfl, rfl⟩
  | succ m ih =>
    intro f v w hm hl
    have hlen := lies_len hl
    rcases Nat.eq_zero_or_pos f.len with h0 | h0
    · obtain rfl := Fo.len_nil h0
      obtain ⟨a, cap, rfl⟩ := lies_form hl
      clear hl
      go_enter Tryz.func70, Tryz.ntmps70
      go_wp2_with fail
      go_loop [3, 4] (fun n i => n = .int .i64 0 ∧ i = .int .i64 0) (fun _ _ => 0)
      case atStart => exact ⟨rfl, rfl⟩
      case round =>
        obtain ⟨rfl, rfl⟩ := hrel
        go_wp2_with fail
        go_ret
        exact ⟨rfl, rfl⟩
    · obtain ⟨b, o, cap, rfl, hcap, -, hb, hrow⟩ := lies_row hl h0
      have HR := Lib.hid hrow
      have IH := Lib.hid ih
      clear hl hrow ih
      go_enter Tryz.func70, Tryz.ntmps70
      go_wp2_with fail
      go_loop [3, 4] (fun n i => ∃ k : Nat, k ≤ f.len ∧ i = .int .i64 k ∧ n = .int .i64 (deepL 0 (f.take k))) (fun _ i => f.len - (intOf i).toNat)
      case atStart => exact ⟨0, Nat.zero_le _, rfl, rfl⟩
      case round =>
        obtain ⟨k, hk, rfl, rfl⟩ := hrel
        by_cases hlt : k < f.len
        · obtain ⟨hd, ks, e, -, vk, hc, hlk⟩ := row_get HR.out hlt
          have HS := Lib.hid (deepL_take_succ 0 e)
          have hks : ks.size ≤ m := by
            have h1 := Fo.take_app_drop k f
            have h2 := congrArg Fo.size h1
            rw [Fo.size_app, e] at h2
            simp only [Fo.size] at h2
            omega
          have HC := Lib.hid (IH.out ks vk w hks hlk)
          clear e hlk
          go_wp2_with (go_at_call 70; refine HC.out.mono ?_; rintro e w' ⟨rfl, rfl⟩)
          go_round
          case rel => exact ⟨k + 1, by omega, by go_num, int_val (by rw [HS.out]; split <;> omega)⟩
          case measure => simp [intOf]; omega
        · obtain rfl : k = f.len := by omega
          go_wp2_with fail
          go_ret
          exact ⟨ret_int' (by rw [Fo.take_len]), rfl⟩

theorem any_range_hit {p : Nat → Bool} {n k : Nat} (hk : k < n) (h : p k = true) : (List.range n).any p = true := by
  simp only [List.any_eq_true, List.mem_range]; exact ⟨k, hk, h⟩
theorem any_range_none {p : Nat → Bool} {n : Nat} (h : ∀ j, j < n → p j = false) : (List.range n).any p = false := by
  simp only [List.any_eq_false, List.mem_range]; intro j hj; simp [h j hj]

set_option maxHeartbeats 1000000 in
theorem greatHead_any (h : Hd) (va : Value) (w : World) (ha : AttrsLie w va h.ats) :
    Calls Tryz.prog 14 #[.agg #[.int .i64 h.k, .string ⟨h.l.toArray⟩, va, .int .i64 h.n, .int .i64 h.d, .string ⟨h.x.toArray⟩]] w fun e w' => e = .returned (.bool (greatHead h)) ∧ Below w.heap.size w w' := by
  obtain ⟨k, l, ats, n, d, x⟩ := h
  simp only at ha ⊢
  have HEnd : ∀ j, j = ats.length → (∀ i, i < j → greatAt ats i = false) → greatHead ⟨k, l, ats, n, d, x⟩ = (decide (60 < l.length) || decide (60 < x.length)) := by
    rintro j rfl hj
    unfold greatHead; simp only [any_range_none hj, Bool.false_or]
  have HHit : ∀ j, j < ats.length → greatAt ats j = true → greatHead ⟨k, l, ats, n, d, x⟩ = true := by
    intro j hj h1
    unfold greatHead; simp only [any_range_hit hj h1, Bool.true_or]
  have HE := Lib.hid HEnd
  have HH := Lib.hid HHit
  clear HEnd HHit
  obtain ⟨a0, cap0, rfl⟩ := attrs_form ha
  have HA := Lib.hid ha
  clear ha
  go_enter Tryz.func14, Tryz.ntmps14
  go_wp2_with fail
  go_loop [3] (fun i => ∃ j : Nat, i = .int .i64 j ∧ j ≤ ats.length ∧ ∀ q, q < j → greatAt ats q = false) (fun i => ats.length - (intOf i).toNat)
  case atStart => exact ⟨0, rfl, Nat.zero_le _, fun q hq => absurd hq (by omega)⟩
  case round =>
    obtain ⟨j, rfl, hj, hq⟩ := hrel
    have HQ := Lib.hid hq
    clear hq
    by_cases hlt : j < ats.length
    · obtain ⟨b, off, cap, hs, hcap, hlim, hb, hc⟩ := attrs_row HA.out (by omega)
      obtain ⟨c1, c2⟩ := hc j hlt
      have HG := Lib.hid (show greatAt ats j = (decide (9 < j) || (decide (60 < (ats.getD j ([], [])).1.length) || decide (60 < (ats.getD j ([], [])).2.length))) from rfl)
      simp only [Value.slice.injEq] at hs
      obtain ⟨rfl, -, rfl⟩ := hs
      clear hc
      generalize (ats.getD j ([], [])).1 = s1 at *
      generalize (ats.getD j ([], [])).2 = s2 at *
      by_cases h9 : 9 < j
      · have HT := Lib.hid (HH.out j hlt (by rw [HG.out]; simp [h9]))
        go_wp2_with fail
        go_ret
        exact ⟨ret_bool HT.out.symm, (Below.refl _ _).alloc (Nat.le_refl _) _⟩
      · by_cases h1 : 60 < s1.length
        · have HT := Lib.hid (HH.out j hlt (by rw [HG.out]; simp [h1]))
          go_wp2_with fail
          go_ret
          exact ⟨ret_bool HT.out.symm, (Below.refl _ _).alloc (Nat.le_refl _) _⟩
        · by_cases h2 : 60 < s2.length
          · have HT := Lib.hid (HH.out j hlt (by rw [HG.out]; simp [h2]))
            go_wp2_with fail
            go_ret
            exact ⟨ret_bool HT.out.symm, (Below.refl _ _).alloc (Nat.le_refl _) _⟩
          · have HN := Lib.hid (show greatAt ats j = false by rw [HG.out]; simp [h9, h1, h2])
            go_wp2_with fail
            go_round
            case rel => exact ⟨j + 1, by go_num, by omega, fun q hq => (Nat.lt_or_ge q j).elim (HQ.out q) fun h => by rw [show q = j by omega]; exact HN.out⟩
            case measure => simp [intOf]; omega
    · have HT := Lib.hid (HE.out j (by omega) HQ.out)
      by_cases h1 : 60 < l.length
      · go_wp2_with fail
        go_ret
        exact ⟨ret_bool (by rw [HT.out]; simp; omega), (Below.refl _ _).alloc (Nat.le_refl _) _⟩
      · by_cases h2 : 60 < x.length
        · go_wp2_with fail
          go_ret
          exact ⟨ret_bool (by rw [HT.out]; simp [h2]; omega), (Below.refl _ _).alloc (Nat.le_refl _) _⟩
        · go_wp2_with fail
          go_ret
          exact ⟨ret_bool (by rw [HT.out]; simp [h1, h2]; omega), (Below.refl _ _).alloc (Nat.le_refl _) _⟩
end Go.Proofs.YtcgedpfolloinaaGreat

namespace Go.Proofs.YtcgedpfolloinaaGreat
open Go.RowKit

/-- whether some tree of the list is great, or its kids are. -/
def greatKids : Fo → Bool
  | .nil => false
  | .cons h ks r => (greatHead h || (decide (600 < wrap64 (ks.size : Int)) || (decide (60 < deepL 0 ks) || greatKids ks))) || greatKids r
def great (f : Fo) : Bool := decide (600 < wrap64 (f.size : Int)) || (decide (60 < deepL 0 f) || greatKids f)
/-- no list is too long for an address. -/
def bnd : Fo → Prop
  | .nil => True
  | .cons _ ks r => ks.len ≤ 2000000000000 ∧ bnd ks ∧ bnd r

theorem bnd_row {w : World} : ∀ (f : Fo) (b o : Nat), RowAt w f b o → bnd f
  | .nil, _, _, _ => trivial
  | .cons h ks r, b, o, H => by
    obtain ⟨_, ⟨v, _, h3⟩, h4⟩ := H
    rcases h3 with ⟨_, _, _, rfl⟩ | ⟨b', o', cap, _, _, e0, _, e2⟩
    · exact ⟨by simp [Fo.len], trivial, bnd_row r _ _ h4⟩
    · exact ⟨e0, bnd_row ks b' o' e2, bnd_row r _ _ h4⟩
theorem bnd_lies {w : World} {v : Value} {f : Fo} (h : Lies w v f) : bnd f := by
  rcases h with ⟨a, cap, rfl, rfl⟩ | ⟨b, o, cap, rfl, _, _, _, h⟩
  · trivial
  · exact bnd_row f b o h

theorem great_sizes : ∀ f : Fo, bnd f → greatKids f = false → f.size ≤ f.len * 601 ∧ (f.size ≤ 600 → deepL 0 f ≤ 60 → (f.deep : Int) = deepL 0 f) := by
  intro f
  suffices H : ∀ f : Fo, bnd f → greatKids f = false → f.size ≤ f.len * 601 ∧ ∀ n : Int, 0 ≤ n → deepL n f = max n f.deep from fun hb hg =>
    ⟨(H f hb hg).1, fun _ _ => by rw [(H f hb hg).2 0 (by omega)]; omega⟩
  intro f
  induction f with
  | nil => intro _ _; exact ⟨by simp [Fo.size], fun n hn => by simp [deepL, Fo.deep]; omega⟩
  | cons h ks r ihk ihr =>
    intro hb hg
    obtain ⟨hl, hbk, hbr⟩ := hb
    unfold greatKids at hg
    simp only [Bool.or_eq_false_iff, decide_eq_false_iff_not] at hg
    obtain ⟨⟨_, g1, g2, g3⟩, g4⟩ := hg
    obtain ⟨k1, k2⟩ := ihk hbk g3
    obtain ⟨r1, r2⟩ := ihr hbr g4
    have hs : ks.size ≤ 600 := by
      rw [wrap64_id (by omega) (by omega)] at g1
      omega
    refine ⟨by simp only [Fo.size, Fo.len]; omega, fun n hn => ?_⟩
    have hd := Fo.deep_le_size ks
    simp only [deepL, Fo.deep]
    rw [k2 0 (by omega), show max (0 : Int) (ks.deep : Int) = ks.deep by omega, wrap64_id (by omega) (by omega), r2 _ (by omega)]
    omega
/-- what is not great is small. -/
theorem small_of {f : Fo} (hl : f.len ≤ 2000000000000) (hb : bnd f) (hg : great f = false) : f.size ≤ 600 ∧ f.deep ≤ 60 ∧ deepL 0 f = f.deep := by
  unfold great at hg
  simp only [Bool.or_eq_false_iff, decide_eq_false_iff_not] at hg
  obtain ⟨g1, g2, g3⟩ := hg
  obtain ⟨s1, s2⟩ := great_sizes f hb g3
  rw [wrap64_id (by omega) (by omega)] at g1
  have := s2 (by omega) (by omega)
  omega

theorem greatKids_take {f : Fo} : ∀ {i : Nat} {h : Hd} {ks r : Fo}, f.drop i = .cons h ks r → greatKids (f.take (i + 1)) = (greatKids (f.take i) || (greatHead h || great ks)) := by
  induction f with
  | nil => intro i h ks r e; rw [Fo.drop_nil] at e; cases e
  | cons h0 k0 r0 _ ih =>
    intro i h ks r e
    cases i with
    | zero => simp only [Fo.drop, Fo.cons.injEq] at e; obtain ⟨rfl, rfl, rfl⟩ := e; simp [Fo.take, greatKids, great]
    | succ i => simp only [Fo.drop] at e; simp only [Fo.take, greatKids]; rw [ih e]; simp [Bool.or_assoc]
theorem greatKids_hit {f : Fo} {i : Nat} {h : Hd} {ks r : Fo} (e : f.drop i = .cons h ks r) (hg : greatHead h = true ∨ great ks = true) : greatKids f = true := by
  have h1 := greatKids_take e
  have h2 : ∀ (i : Nat) (f : Fo), greatKids (f.take i) = true → greatKids f = true := by
    intro i
    induction i with
    | zero => intro f hh; simp [Fo.take, greatKids] at hh
    | succ i ih =>
      intro f hh
      cases f with
      | nil => simp [Fo.take, greatKids] at hh
      | cons h0 k0 r0 =>
        simp only [Fo.take, greatKids, Bool.or_eq_true] at hh ⊢
        rcases hh with hh | hh
        · exact .inl hh
        · exact .inr (ih r0 hh)
  refine h2 (i + 1) f ?_
  rw [h1]
  rcases hg with hg | hg <;> simp [hg]

theorem kid_size {f : Fo} {k : Nat} {hd : Hd} {ks : Fo} (e : f.drop k = .cons hd ks (f.drop (k + 1))) : ks.size + (f.take k).size + (f.drop (k + 1)).size + 1 = f.size := by
  have h2 := congrArg Fo.size (Fo.take_app_drop k f)
  rw [Fo.size_app, e] at h2
  simp only [Fo.size] at h2
  omega

theorem great_go {f : Fo} (h1 : ¬ 600 < wrap64 (f.size : Int)) (h2 : ¬ 60 < deepL 0 f) : great f = greatKids f := by
  unfold great; simp [h1, h2]
theorem great_top {f : Fo} (h : 600 < wrap64 (f.size : Int) ∨ 60 < deepL 0 f) : great f = true := by
  unfold great; rcases h with h | h <;> simp [h]

set_option maxRecDepth 100000 in
set_option maxHeartbeats 2000000 in
theorem great_any (m : Nat) : ∀ (f : Fo) (v : Value) (w : World), f.size ≤ m → Lies w v f →
    Calls Tryz.prog 15 #[v] w fun e w' => e = .returned (.bool (great f)) ∧ Below w.heap.size w w' := by
  induction m using Nat.strongRecOn with
  | ind m ih =>
    intro f v w hm hl
    have S1 := Lib.hid (sizeOf_any m f v w hm hl)
    have D1 := Lib.hid (deepOf_any m f v w hm hl)
    have HL := Lib.hid hl
    have IH := Lib.hid ih
    have hlen := lies_len hl
    obtain ⟨a, cap, rfl⟩ := lies_form hl
    have HT := Lib.hid (great_top (f := f))
    have HG := Lib.hid (great_go (f := f))
    clear hl ih
    generalize wrap64 (f.size : Int) = sz at *
    generalize deepL 0 f = dp at *
    by_cases h1 : 600 < sz
    · have d1 : decide (600 < sz) = true := by simpa using h1
      go_enter Tryz.func15, Tryz.ntmps15
      go_wp2_with fail
      refine S1.out.mono ?_; rintro e w' ⟨rfl, rfl⟩
      go_wp2_with fail
      go_ret
      exact ⟨ret_bool (HT.out (.inl h1)).symm, Below.refl _ _⟩
    · have d1 : decide (600 < sz) = false := by simpa using h1
      by_cases h2 : 60 < dp
      · have d2 : decide (60 < dp) = true := by simpa using h2
        go_enter Tryz.func15, Tryz.ntmps15
        go_wp2_with fail
        refine S1.out.mono ?_; rintro e w' ⟨rfl, rfl⟩
        go_wp2_with fail
        refine D1.out.mono ?_; rintro e w' ⟨rfl, rfl⟩
        go_wp2_with fail
        go_ret
        exact ⟨ret_bool (HT.out (.inr h2)).symm, Below.refl _ _⟩
      · have HK := Lib.hid (HG.out h1 h2)
        have d2 : decide (60 < dp) = false := by simpa using h2
        clear HG HT
        go_enter Tryz.func15, Tryz.ntmps15
        go_wp2_with fail
        refine S1.out.mono ?_; rintro e w' ⟨rfl, rfl⟩
        go_wp2_with fail
        refine D1.out.mono ?_; rintro e w' ⟨rfl, rfl⟩
        go_wp2_with fail
        clear S1 D1 d1 d2
        go_loopw [3] (fun i wr => ∃ k : Nat, i = .int .i64 k ∧ k ≤ f.len ∧ greatKids (f.take k) = false ∧ Below w.heap.size w wr) (fun i _ => f.len - (intOf i).toNat)
        case atStart => exact ⟨0, rfl, Nat.zero_le _, rfl, Below.refl _ _⟩
        case round =>
          obtain ⟨k, rfl, hk, hg, hbw⟩ := hrel
          have HN := Lib.hid hg
          clear hg
          by_cases hlt : k < f.len
          · obtain ⟨b, o, cap', hs, hcap, -, hb, hrow⟩ := lies_row HL.out (by omega)
            simp only [Value.slice.injEq] at hs
            obtain ⟨rfl, -, rfl⟩ := hs
            obtain ⟨hd, ks, e, hh, vk, c6, hlk⟩ := row_get hrow hlt
            obtain ⟨hcw, hfw⟩ := bcell hbw
            have hbr := Nat.lt_of_lt_of_le hb hbw.size
            obtain ⟨c0, c1, ⟨va, c2, ha⟩, c3, c4, c5⟩ := hdAt_below hb hbw hh
            have c6' := (hcw b (o + k * 7 + 6) hb).trans c6
            have GH := Lib.hid (fun w1 (hb1 : Below wr.heap.size wr w1) => greatHead_any hd va wr ha)
            have GH := Lib.hid (greatHead_any hd va wr ha)
            have hks := kid_size e
            have GK := Lib.hid (fun w1 (hb1 : Below wr.heap.size wr w1) => IH.out ks.size (by omega) ks vk w1 (Nat.le_refl _) (lies_below (lies_below hlk hbw) hb1))
            have HT := Lib.hid (greatKids_take e)
            have HH := Lib.hid (greatKids_hit e)
            clear e hrow hh c6 hlk hcw hfw ha
            cases hgh : greatHead hd with
            | true =>
              as_aux_lemma =>
                rw [hgh] at GH
                have HX := Lib.hid (HH.out (.inl hgh))
                clear hgh
                go_wp2_with fail
                refine (GH.out).mono ?_; rintro e w1 ⟨rfl, hb1⟩; obtain ⟨hc1, hf1⟩ := bcell hb1; have hs1 := hb1.size; (try simp at hs1); (try have hz10 : w.heap.size < w1.heap.size := by omega); (try have hz11 : w.heap.size + 1 < w1.heap.size := by omega); (try have hz12 : w.heap.size + 1 + 1 < w1.heap.size := by omega); (try have hz13 : w.heap.size + 1 + 1 + 1 < w1.heap.size := by omega); (try have hz14 : w.heap.size + 1 + 1 + 1 + 1 < w1.heap.size := by omega); (try have hz15 : w.heap.size + 1 + 1 + 1 + 1 + 1 < w1.heap.size := by omega)
                go_wp2_with fail
                go_ret
                exact ⟨ret_bool (by rw [HK.out, HX.out]), hbw.trans (hb1.mono hbw.size)⟩
            | false =>
              rw [hgh] at GH
              cases hgk : great ks with
              | true =>
                as_aux_lemma =>
                  have HX := Lib.hid (HH.out (.inr hgk))
                  rw [hgk] at GK
                  clear hgh hgk
                  go_wp2_with fail
                  refine (GH.out).mono ?_; rintro e w1 ⟨rfl, hb1⟩; obtain ⟨hc1, hf1⟩ := bcell hb1; have hs1 := hb1.size; (try simp at hs1); (try have hz10 : w.heap.size < w1.heap.size := by omega); (try have hz11 : w.heap.size + 1 < w1.heap.size := by omega); (try have hz12 : w.heap.size + 1 + 1 < w1.heap.size := by omega); (try have hz13 : w.heap.size + 1 + 1 + 1 < w1.heap.size := by omega); (try have hz14 : w.heap.size + 1 + 1 + 1 + 1 < w1.heap.size := by omega); (try have hz15 : w.heap.size + 1 + 1 + 1 + 1 + 1 < w1.heap.size := by omega)
                  go_wp2_with fail
                  refine (GK.out _ hb1).mono ?_; rintro e w2 ⟨rfl, hb2⟩; obtain ⟨hc2, hf2⟩ := bcell hb2; have hs2 := hb2.size; (try simp at hs2); (try have hz20 : w.heap.size < w2.heap.size := by omega); (try have hz21 : w.heap.size + 1 < w2.heap.size := by omega); (try have hz22 : w.heap.size + 1 + 1 < w2.heap.size := by omega); (try have hz23 : w.heap.size + 1 + 1 + 1 < w2.heap.size := by omega); (try have hz24 : w.heap.size + 1 + 1 + 1 + 1 < w2.heap.size := by omega); (try have hz25 : w.heap.size + 1 + 1 + 1 + 1 + 1 < w2.heap.size := by omega); (try have hy1_2 : w1.heap.size < w2.heap.size := by omega)
                  go_wp2_with fail
                  go_ret
                  exact ⟨ret_bool (by rw [HK.out, HX.out]), (hbw.trans (hb1.mono hbw.size)).trans (hb2.mono (Nat.le_trans hbw.size hb1.size))⟩
              | false =>
                as_aux_lemma =>
                  have HX := Lib.hid (show greatKids (f.take (k + 1)) = false by rw [HT.out, HN.out, hgh, hgk]; rfl)
                  rw [hgk] at GK
                  clear hgh hgk
                  go_wp2_with fail
                  refine (GH.out).mono ?_; rintro e w1 ⟨rfl, hb1⟩; obtain ⟨hc1, hf1⟩ := bcell hb1; have hs1 := hb1.size; (try simp at hs1); (try have hz10 : w.heap.size < w1.heap.size := by omega); (try have hz11 : w.heap.size + 1 < w1.heap.size := by omega); (try have hz12 : w.heap.size + 1 + 1 < w1.heap.size := by omega); (try have hz13 : w.heap.size + 1 + 1 + 1 < w1.heap.size := by omega); (try have hz14 : w.heap.size + 1 + 1 + 1 + 1 < w1.heap.size := by omega); (try have hz15 : w.heap.size + 1 + 1 + 1 + 1 + 1 < w1.heap.size := by omega)
                  go_wp2_with fail
                  refine (GK.out _ hb1).mono ?_; rintro e w2 ⟨rfl, hb2⟩; obtain ⟨hc2, hf2⟩ := bcell hb2; have hs2 := hb2.size; (try simp at hs2); (try have hz20 : w.heap.size < w2.heap.size := by omega); (try have hz21 : w.heap.size + 1 < w2.heap.size := by omega); (try have hz22 : w.heap.size + 1 + 1 < w2.heap.size := by omega); (try have hz23 : w.heap.size + 1 + 1 + 1 < w2.heap.size := by omega); (try have hz24 : w.heap.size + 1 + 1 + 1 + 1 < w2.heap.size := by omega); (try have hz25 : w.heap.size + 1 + 1 + 1 + 1 + 1 < w2.heap.size := by omega); (try have hy1_2 : w1.heap.size < w2.heap.size := by omega)
                  go_wp2_with fail
                  go_roundw
                  case rel => exact ⟨k + 1, by go_num, by omega, HX.out, (hbw.trans (hb1.mono hbw.size)).trans (hb2.mono (Nat.le_trans hbw.size hb1.size))⟩
                  case measure => simp [intOf]; omega
          · obtain rfl : k = f.len := by omega
            go_wp2_with fail
            go_ret
            exact ⟨ret_bool (by rw [HK.out, ← HN.out, Fo.take_len]), hbw⟩
end Go.Proofs.YtcgedpfolloinaaGreat

namespace Go.Proofs.YtcgedpfolloinaaGreat
open Go.RowKit

theorem gcdM_pos (n d : Int) (h : ¬ d = 0) : 1 ≤ gcdM n d := by
  unfold gcdM
  have : Int.gcd n d ≠ 0 := by rw [Ne, Int.gcd_eq_zero_iff]; omega
  omega

theorem gcdM_le (n d : Int) (h : ¬ d = 0) : gcdM n d ≤ d.natAbs := by
  unfold gcdM
  have := Int.gcd_le_natAbs_right n h
  omega

theorem tdiv_bd (n g B : Int) (h1 : -B ≤ n) (h2 : n ≤ B) : -B ≤ n.tdiv g ∧ n.tdiv g ≤ B := by
  have h : (n.tdiv g).natAbs ≤ n.natAbs := by rw [Int.natAbs_tdiv]; exact Nat.div_le_self _ _
  omega

def lowD (n d : Int) : Int := (d.natAbs : Int).tdiv (gcdM n d)
def lowN (n d : Int) : Int := (if d < 0 then -n else n).tdiv (gcdM n d)
def lowOk (n d : Int) : Bool := decide (-1000000000 ≤ lowN n d ∧ lowN n d ≤ 1000000000 ∧ lowD n d ≤ 1000000000)


theorem lowN_neg {n d : Int} (h : d < 0) : lowN n d = -n.tdiv (gcdM n d) := by unfold lowN; rw [if_pos h, Int.neg_tdiv]
theorem lowN_pos {n d : Int} (h : ¬ d < 0) : lowN n d = n.tdiv (gcdM n d) := by unfold lowN; rw [if_neg h]
theorem lowD_neg {n d : Int} (h : d < 0) : lowD n d = -d.tdiv (gcdM n d) := by unfold lowD; rw [show (d.natAbs : Int) = -d by omega, Int.neg_tdiv]
theorem lowD_pos {n d : Int} (h : ¬ d < 0) : lowD n d = d.tdiv (gcdM n d) := by unfold lowD; rw [show (d.natAbs : Int) = d by omega]
/-- how a number in lowest terms ends: it, or the panic of what is beyond the bounds. -/
def lowEnd (n d : Int) : Ending := if lowOk n d then .returned (.agg #[.int .i64 (lowN n d), .int .i64 (lowD n d)]) else .panicked [{ v := .iface 231 (.agg #[]), recovered := false }]
theorem lowEnd_ok {n d x y : Int} (hx : x = lowN n d) (hy : y = lowD n d) (h1 : -1000000000 ≤ x) (h2 : x ≤ 1000000000) (h3 : y ≤ 1000000000) : Ending.returned (.agg #[.int .i64 x, .int .i64 y]) = lowEnd n d := by
  subst hx hy; unfold lowEnd; rw [if_pos]; exact decide_eq_true ⟨h1, h2, h3⟩
theorem lowEnd_no {n d : Int} (h : ¬ (-1000000000 ≤ lowN n d ∧ lowN n d ≤ 1000000000 ∧ lowD n d ≤ 1000000000)) : Ending.panicked [{ v := .iface 231 (.agg #[]), recovered := false }] = lowEnd n d := by
  unfold lowEnd; rw [if_neg]; unfold lowOk; simpa using h

set_option maxHeartbeats 400000 in
theorem lowest_any (n d : Int) (w : World) (h1 : -9223372036854775808 < n) (h2 : n ≤ 9223372036854775807)
   (h3 : -9223372036854775808 < d) (h4 : d ≤ 9223372036854775807) (hd : ¬ d = 0) :
    Calls Tryz.prog 219 #[.int .i64 n, .int .i64 d] w fun e w' => e = lowEnd n d ∧ Below w.heap.size w w' := by
  have g1 := gcdM_pos n d hd
  have g2 := gcdM_le n d hd
  have b1 := tdiv_bd n (gcdM n d) 9223372036854775807 (by omega) (by omega)
  have b2 := tdiv_bd d (gcdM n d) 9223372036854775807 (by omega) (by omega)
  have g3 : ¬ gcdM n d = 0 := by omega
  by_cases h : d < 0
  · have c1 := Lib.hid (lowN_neg (n := n) h)
    have c2 := Lib.hid (lowD_neg (n := n) h)
    go_enter Tryz.func219, Tryz.ntmps219
    go_wp2_with (go_at_call 120; refine (gcd_any _ _ _ (by omega) (by omega) (by omega) (by omega)).mono ?_; rintro e w1 ⟨rfl, hb1⟩; obtain ⟨hc1, hf1⟩ := bcell hb1; have hs1 := hb1.size; (try simp at hs1); (try have hz0 : w.heap.size < w1.heap.size := by omega); (try have hz1 : w.heap.size + 1 < w1.heap.size := by omega); (try have hz2 : w.heap.size + 1 + 1 < w1.heap.size := by omega); (try have hz3 : w.heap.size + 1 + 1 + 1 < w1.heap.size := by omega); (try have hz4 : w.heap.size + 1 + 1 + 1 + 1 < w1.heap.size := by omega); (try have hz5 : w.heap.size + 1 + 1 + 1 + 1 + 1 < w1.heap.size := by omega))
    go_quiet (fail)
    go_wp2
    · exact ⟨rfl, lowEnd_no (by rw [c1.out, c2.out]; omega), by ((repeat' (first | exact Below.refl _ _ | assumption | refine Below.setCell ?_ ?_ _ | refine bdrewN ?_ _ | refine Below.drew ?_ | refine Below.alloc ?_ ?_ _ | refine bbehind ?_ (by assumption) ?_)); all_goals first | (simp; done) | (simp; omega) | omega)⟩
    · refine bodyPost_ret (v := .agg #[.int .i64 (-n.tdiv (gcdM n d)), .int .i64 (-d.tdiv (gcdM n d))]) (by simp (maxDischargeDepth := 8) [results, Tryz.results219, go_sem, *]) rfl ?_
      exact ⟨lowEnd_ok c1.out.symm c2.out.symm (by omega) (by omega) (by omega), by ((repeat' (first | exact Below.refl _ _ | assumption | refine Below.setCell ?_ ?_ _ | refine bdrewN ?_ _ | refine Below.drew ?_ | refine Below.alloc ?_ ?_ _ | refine bbehind ?_ (by assumption) ?_)); all_goals first | (simp; done) | (simp; omega) | omega)⟩
    all_goals exact ⟨rfl, lowEnd_no (by rw [c1.out, c2.out]; omega), by ((repeat' (first | exact Below.refl _ _ | assumption | refine Below.setCell ?_ ?_ _ | refine bdrewN ?_ _ | refine Below.drew ?_ | refine Below.alloc ?_ ?_ _ | refine bbehind ?_ (by assumption) ?_)); all_goals first | (simp; done) | (simp; omega) | omega)⟩
  · have c1 := Lib.hid (lowN_pos (n := n) h)
    have c2 := Lib.hid (lowD_pos (n := n) h)
    go_enter Tryz.func219, Tryz.ntmps219
    go_wp2_with (go_at_call 120; refine (gcd_any _ _ _ (by omega) (by omega) (by omega) (by omega)).mono ?_; rintro e w1 ⟨rfl, hb1⟩; obtain ⟨hc1, hf1⟩ := bcell hb1; have hs1 := hb1.size; (try simp at hs1); (try have hz0 : w.heap.size < w1.heap.size := by omega); (try have hz1 : w.heap.size + 1 < w1.heap.size := by omega); (try have hz2 : w.heap.size + 1 + 1 < w1.heap.size := by omega); (try have hz3 : w.heap.size + 1 + 1 + 1 < w1.heap.size := by omega); (try have hz4 : w.heap.size + 1 + 1 + 1 + 1 < w1.heap.size := by omega); (try have hz5 : w.heap.size + 1 + 1 + 1 + 1 + 1 < w1.heap.size := by omega))
    go_quiet (fail)
    go_wp2
    · exact ⟨rfl, lowEnd_no (by rw [c1.out, c2.out]; omega), by ((repeat' (first | exact Below.refl _ _ | assumption | refine Below.setCell ?_ ?_ _ | refine bdrewN ?_ _ | refine Below.drew ?_ | refine Below.alloc ?_ ?_ _ | refine bbehind ?_ (by assumption) ?_)); all_goals first | (simp; done) | (simp; omega) | omega)⟩
    · refine bodyPost_ret (v := .agg #[.int .i64 (n.tdiv (gcdM n d)), .int .i64 (d.tdiv (gcdM n d))]) (by simp (maxDischargeDepth := 8) [results, Tryz.results219, go_sem, *]) rfl ?_
      exact ⟨lowEnd_ok c1.out.symm c2.out.symm (by omega) (by omega) (by omega), by ((repeat' (first | exact Below.refl _ _ | assumption | refine Below.setCell ?_ ?_ _ | refine bdrewN ?_ _ | refine Below.drew ?_ | refine Below.alloc ?_ ?_ _ | refine bbehind ?_ (by assumption) ?_)); all_goals first | (simp; done) | (simp; omega) | omega)⟩
    all_goals exact ⟨rfl, lowEnd_no (by rw [c1.out, c2.out]; omega), by ((repeat' (first | exact Below.refl _ _ | assumption | refine Below.setCell ?_ ?_ _ | refine bdrewN ?_ _ | refine Below.drew ?_ | refine Below.alloc ?_ ?_ _ | refine bbehind ?_ (by assumption) ?_)); all_goals first | (simp; done) | (simp; omega) | omega)⟩

theorem lowEnd_yes {n d : Int} (h : lowOk n d = true) : lowEnd n d = .returned (.agg #[.int .i64 (lowN n d), .int .i64 (lowD n d)]) := if_pos h
theorem lowEnd_not {n d : Int} (h : ¬ lowOk n d = true) : lowEnd n d = .panicked [{ v := .iface 231 (.agg #[]), recovered := false }] := if_neg h

theorem low_yes {P : Program} {f : FuncId} {args : Array Value} {w : World} {n d : Int} (hok : lowOk n d = true) (h : Calls P f args w fun e w' => e = lowEnd n d ∧ Below w.heap.size w w') :
    Calls P f args w fun e w' => e = .returned (.agg #[.int .i64 (lowN n d), .int .i64 (lowD n d)]) ∧ Below w.heap.size w w' :=
  h.mono fun _ _ ⟨he, hb⟩ => ⟨he.trans (lowEnd_yes hok), hb⟩
theorem low_not {P : Program} {f : FuncId} {args : Array Value} {w : World} {n d : Int} (hok : ¬ lowOk n d = true) (h : Calls P f args w fun e w' => e = lowEnd n d ∧ Below w.heap.size w w') :
    Calls P f args w fun e w' => e = .panicked [{ v := .iface 231 (.agg #[]), recovered := false }] ∧ Below w.heap.size w w' :=
  h.mono fun _ _ ⟨he, hb⟩ => ⟨he.trans (lowEnd_not hok), hb⟩

theorem lowest_ok (n d : Int) (w : World) (h1 : -9223372036854775808 < n) (h2 : n ≤ 9223372036854775807)
   (h3 : -9223372036854775808 < d) (h4 : d ≤ 9223372036854775807) (hd : ¬ d = 0) (hok : lowOk n d = true) :
    Calls Tryz.prog 219 #[.int .i64 n, .int .i64 d] w fun e w' => e = .returned (.agg #[.int .i64 (lowN n d), .int .i64 (lowD n d)]) ∧ Below w.heap.size w w' :=
  (lowest_any n d w h1 h2 h3 h4 hd).mono fun _ _ ⟨he, hb⟩ => ⟨he.trans (lowEnd_yes hok), hb⟩
theorem lowest_beyond (n d : Int) (w : World) (h1 : -9223372036854775808 < n) (h2 : n ≤ 9223372036854775807)
   (h3 : -9223372036854775808 < d) (h4 : d ≤ 9223372036854775807) (hd : ¬ d = 0) (hok : ¬ lowOk n d = true) :
    Calls Tryz.prog 219 #[.int .i64 n, .int .i64 d] w fun e w' => e = .panicked [{ v := .iface 231 (.agg #[]), recovered := false }] ∧ Below w.heap.size w w' :=
  (lowest_any n d w h1 h2 h3 h4 hd).mono fun _ _ ⟨he, hb⟩ => ⟨he.trans (lowEnd_not hok), hb⟩
end Go.Proofs.YtcgedpfolloinaaGreat

namespace Go.Proofs.YtcgedpfolloinaaGreat
open Go.RowKit

set_option maxRecDepth 100000 in
/-- the deferred function of 'bounded', where the panic 'beyond' goes through it. -/
theorem catch_beyond (p : Addr) (x : Int) (older : List PanicEntry) (w : World) (hc : w.cell? p = some (.int .i64 x)) (hz : w.frozen? p = false) :
    CallsD Tryz.prog 222 #[.pointer (some p)] (.panicking ({ v := .iface 231 (.agg #[]), recovered := false } :: older)) w fun e u' w' =>
      e = .returned (.tuple #[]) ∧ u' = .panicking ({ v := .iface 231 (.agg #[]), recovered := true } :: older) ∧ w' = w.setCell p (.int .i64 8) := by
  have hta : ∀ w, (Instr.typeAssert (.iface 231 (.agg #[])) 20 231 true).run Tryz.prog w = .ok (.tuple #[.agg #[], .bool true]) w := fun _ => by kernel_rfl
  refine callsD_of_wpS Tryz.func222 rfl fun c₀ cs hu => ?_
  apply wpS_seq
  apply wpS_region
  simp [wpOpsS, go_sem, recoverD, hu, Tryz.ntmps222, Exit.thenS]
  refine wpS_of_wp ?_
  clear hu
  change Code.wp _ _ _ { tmps := #[.pointer (some p), .iface 231 (.agg #[]), undef, undef, undef, undef], defers := [] } _
  go_wp2
  simp [bodyPostS, results, Tryz.results222]

theorem catch_idle (p : Addr) (w : World) :
    CallsD Tryz.prog 222 #[.pointer (some p)] .returning w fun e u' w' => e = .returned (.tuple #[]) ∧ u' = .returning ∧ w' = w := by
  refine callsD_of_wpS Tryz.func222 rfl fun c₀ cs hu => ?_
  apply wpS_seq
  apply wpS_region
  simp [wpOpsS, go_sem, recoverD, hu, Tryz.ntmps222, Exit.thenS]
  refine wpS_of_wp ?_
  go_wp2
  cases c₀
  simp_all [bodyPostS, results, Tryz.results222]

set_option maxRecDepth 100000 in
theorem bounded_ret (k : FuncId) (cap : Array Value) (n d : Int) (w : World) (hk : ∀ w1, (callFunc k cap).run Tryz.prog w1 = .ok (.enter k cap) w1)
    (hf : ∀ w1, Below w.heap.size w w1 → Calls Tryz.prog k cap w1 fun e w' => e = .returned (.agg #[.int .i64 n, .int .i64 d]) ∧ Below w1.heap.size w1 w') :
    Calls Tryz.prog 217 #[.func (.func k) #[] cap] w fun e w' => e = .returned (.tuple #[.agg #[.int .i64 n, .int .i64 d], .int .i64 0]) ∧ Below w.heap.size w w' := by
  have hmf : ∀ (fn : Fn) (first cap : Array Value) (w : World), (Instr.makeFunc fn first cap).run Tryz.prog w = .ok (.func fn first cap) w := fun _ _ _ _ => rfl
  have HF := Lib.hid hf; clear hf
  go_enter_defers Tryz.func217, Tryz.ntmps217
  go_wp2_with fail
  refine (HF.out _ (by ((repeat' (first | exact Below.refl _ _ | assumption | refine Below.setCell ?_ ?_ _ | refine bdrewN ?_ _ | refine Below.drew ?_ | refine Below.alloc ?_ ?_ _ | refine bbehind ?_ (by assumption) ?_)); all_goals first | (simp; done) | (simp; omega) | omega))).mono ?_
  rintro e w1 ⟨rfl, hb1⟩
  obtain ⟨hc1, hf1⟩ := bcell hb1
  have hs1 := hb1.size
  simp at hs1
  go_wp2
  refine leaves_cons (f := 222) (args := #[.pointer (some ⟨w.heap.size + 1, 0, none⟩)]) (by simp) (by simp [go_sem]) ?_
  refine (catch_idle ⟨w.heap.size + 1, 0, none⟩ _).mono ?_
  rintro e u' w'' ⟨rfl, rfl, rfl⟩
  simp (maxDischargeDepth := 8) [Leaves, settle, results, Tryz.results217, go_sem, hc1]
  exact by ((repeat' (first | exact Below.refl _ _ | assumption | refine Below.setCell ?_ ?_ _ | refine bdrewN ?_ _ | refine Below.drew ?_ | refine Below.alloc ?_ ?_ _ | refine bbehind ?_ (by assumption) ?_)); all_goals first | (simp; done) | (simp; omega) | omega)

set_option maxRecDepth 100000 in
theorem bounded_beyond (k : FuncId) (cap : Array Value) (w : World) (hk : ∀ w1, (callFunc k cap).run Tryz.prog w1 = .ok (.enter k cap) w1)
    (hf : ∀ w1, Below w.heap.size w w1 → Calls Tryz.prog k cap w1 fun e w' => e = .panicked [{ v := .iface 231 (.agg #[]), recovered := false }] ∧ Below w1.heap.size w1 w') :
    Calls Tryz.prog 217 #[.func (.func k) #[] cap] w fun e w' => e = .returned (.tuple #[.agg #[.int .i64 0, .int .i64 0], .int .i64 8]) ∧ Below w.heap.size w w' := by
  have hmf : ∀ (fn : Fn) (first cap : Array Value) (w : World), (Instr.makeFunc fn first cap).run Tryz.prog w = .ok (.func fn first cap) w := fun _ _ _ _ => rfl
  have HF := Lib.hid hf; clear hf
  go_enter_defers Tryz.func217, Tryz.ntmps217
  go_wp2_with fail
  refine (HF.out _ (by ((repeat' (first | exact Below.refl _ _ | assumption | refine Below.setCell ?_ ?_ _ | refine bdrewN ?_ _ | refine Below.drew ?_ | refine Below.alloc ?_ ?_ _ | refine bbehind ?_ (by assumption) ?_)); all_goals first | (simp; done) | (simp; omega) | omega))).mono ?_
  rintro e w1 ⟨rfl, hb1⟩
  obtain ⟨hc1, hf1⟩ := bcell hb1
  have hs1 := hb1.size
  simp at hs1
  go_wp2
  refine leaves_cons (f := 222) (args := #[.pointer (some ⟨w.heap.size + 1, 0, none⟩)]) (by simp) (by simp [go_sem]) ?_
  refine (catch_beyond ⟨w.heap.size + 1, 0, none⟩ 0 _ _ ?_ ?_).mono ?_
  · simp [go_sem, hc1]
  · simp [go_sem, hf1]
  rintro e u' w'' ⟨rfl, rfl, rfl⟩
  simp (maxDischargeDepth := 8) [Leaves, settle, results, Tryz.results217, go_sem, hc1]
  exact by ((repeat' (first | exact Below.refl _ _ | assumption | refine Below.setCell ?_ ?_ _ | refine bdrewN ?_ _ | refine Below.drew ?_ | refine Below.alloc ?_ ?_ _ | refine bbehind ?_ (by assumption) ?_)); all_goals first | (simp; done) | (simp; omega) | omega)

end Go.Proofs.YtcgedpfolloinaaGreat

namespace Go.Proofs.YtcgedpfolloinaaGreat
open Go.RowKit Go.BigFrame

theorem mul_bd {a b A B : Int} (h1 : -A ≤ a) (h2 : a ≤ A) (h3 : -B ≤ b) (h4 : b ≤ B) : -(A * B) ≤ a * b ∧ a * b ≤ A * B := by
  have h5 : a.natAbs ≤ A.natAbs := by omega
  have h6 : b.natAbs ≤ B.natAbs := by omega
  have h7 : a.natAbs * b.natAbs ≤ A.natAbs * B.natAbs := Nat.mul_le_mul h5 h6
  have h8 : (a * b).natAbs = a.natAbs * b.natAbs := Int.natAbs_mul a b
  have h9 : (A * B).natAbs = A.natAbs * B.natAbs := Int.natAbs_mul A B
  have h10 : 0 ≤ A * B := Int.mul_nonneg (by omega) (by omega)
  omega
theorem mul_bd9 {a b : Int} (h1 : -1000000000 ≤ a) (h2 : a ≤ 1000000000) (h3 : -1000000000 ≤ b) (h4 : b ≤ 1000000000) : -1000000000000000000 ≤ a * b ∧ a * b ≤ 1000000000000000000 := mul_bd h1 h2 h3 h4
/-- a valid number is within the bounds. -/
structure Fit (n d : Int) : Prop where
  nlo : -1000000000 ≤ n
  nhi : n ≤ 1000000000
  dlo : 1 ≤ d
  dhi : d ≤ 1000000000


end Go.Proofs.YtcgedpfolloinaaGreat

namespace Go.Proofs.YtcgedpfolloinaaGreat
open Go.RowKit Go.BigFrame

theorem fit_of_chk {n d : Int} (h : chk n d = 0) : Fit n d := by
  unfold chk at h
  split at h
  · cases h
  · constructor <;> omega
theorem gcd_of_chk {n d : Int} (h : chk n d = 0) : gcdM n d = 1 := by
  have hf := fit_of_chk h
  have h1 := gcdM_pos n d (by have := hf.dlo; omega)
  unfold chk at h
  split at h
  · cases h
  · split at h
    · cases h
    · omega

/-- a number in lowest terms, and its error. -/
def lowT (n d : Int) : Int × Int × Int := if lowOk n d then (lowN n d, lowD n d, 0) else (0, 0, 8)
theorem lowT_yes {n d : Int} (h : lowOk n d = true) : lowT n d = (lowN n d, lowD n d, 0) := if_pos h
theorem lowT_not {n d : Int} (h : ¬ lowOk n d = true) : lowT n d = (0, 0, 8) := if_neg h
end Go.Proofs.YtcgedpfolloinaaGreat

namespace Go.Proofs.YtcgedpfolloinaaGreat
open Go.RowKit Go.BigFrame

/-- how two whole numbers compare. -/
def cmpM (a b : Int) : Int := if a < b then -1 else if b < a then 1 else 0

set_option maxHeartbeats 400000 in
theorem isNaN_any (n : Int) (w : World) : Calls Tryz.prog 162 #[.int .i64 n] w fun e w' => e = .returned (.bool false) ∧ w = w' := by
  go_enter Tryz.func162, Tryz.ntmps162
  go_wp2
  go_ret
  exact ⟨rfl, rfl⟩

set_option maxHeartbeats 400000 in
theorem compare_any (a b : Int) (w : World) : Calls Tryz.prog 147 #[.int .i64 a, .int .i64 b] w fun e w' => e = .returned (.int .i64 (cmpM a b)) ∧ w = w' := by
  unfold cmpM
  by_cases h1 : a < b
  · rw [if_pos h1]
    go_enter Tryz.func147, Tryz.ntmps147
    go_wp2_with (go_at_call 162; refine (isNaN_any _ _).mono ?_; rintro e w1 ⟨rfl, rfl⟩)
    go_ret
    exact ⟨rfl, rfl⟩
  · rw [if_neg h1]
    by_cases h2 : b < a
    · rw [if_pos h2]
      go_enter Tryz.func147, Tryz.ntmps147
      go_wp2_with (go_at_call 162; refine (isNaN_any _ _).mono ?_; rintro e w1 ⟨rfl, rfl⟩)
      go_ret
      exact ⟨rfl, rfl⟩
    · rw [if_neg h2]
      go_enter Tryz.func147, Tryz.ntmps147
      go_wp2_with (go_at_call 162; refine (isNaN_any _ _).mono ?_; rintro e w1 ⟨rfl, rfl⟩)
      go_ret
      exact ⟨rfl, rfl⟩

end Go.Proofs.YtcgedpfolloinaaGreat

namespace Go.Proofs.YtcgedpfolloinaaGreat
open Go.RowKit Go.BigFrame

def inB (n lo hi : Int) : Bool := decide (lo ≤ n ∧ n ≤ hi)
theorem inB_of {n lo hi : Int} (h : inB n lo hi = true) : lo ≤ n ∧ n ≤ hi := of_decide_eq_true h
theorem inB_not {n lo hi : Int} (h : inB n lo hi = false) : ¬ (lo ≤ n ∧ n ≤ hi) := of_decide_eq_false h
theorem inB_yes {n lo hi : Int} (h : lo ≤ n ∧ n ≤ hi) : inB n lo hi = true := decide_eq_true h
theorem inB_no {n lo hi : Int} (h : ¬ (lo ≤ n ∧ n ≤ hi)) : inB n lo hi = false := decide_eq_false h

set_option maxHeartbeats 400000 in
theorem in_any (n lo hi : Int) (w : World) : Calls Tryz.prog 66 #[.int .i64 n, .int .i64 lo, .int .i64 hi] w fun e w' => e = .returned (.bool (inB n lo hi)) ∧ w = w' := by
  by_cases h1 : lo ≤ n
  · by_cases h2 : n ≤ hi
    · go_enter Tryz.func66, Tryz.ntmps66
      go_wp2
      go_ret
      exact ⟨ret_bool (inB_yes (by omega)).symm, rfl⟩
    · go_enter Tryz.func66, Tryz.ntmps66
      go_wp2
      go_ret
      exact ⟨ret_bool (inB_no (by omega)).symm, rfl⟩
  · go_enter Tryz.func66, Tryz.ntmps66
    go_wp2
    go_ret
    exact ⟨ret_bool (inB_no (by omega)).symm, rfl⟩

theorem gcd_emod (x y : Int) : Int.gcd y (x % y) = Int.gcd x y := by
  rw [Int.gcd_comm x y]
  conv => rhs; rw [← Int.mul_ediv_add_emod x y, Int.add_comm]
  simp
theorem gcd_zero_of {x y n d : Int} (h : Int.gcd x y = Int.gcd n d) (hd : ¬ d = 0) : y = 0 → ¬ x = 0 := by
  intro h1 h2
  subst h1 h2
  have : Int.gcd n d = 0 := by rw [← h]; rfl
  rw [Int.gcd_eq_zero_iff] at this
  exact hd this.2

set_option maxHeartbeats 1600000 in
theorem of2_any (n d : Int) (w : World) (h1 : -9223372036854775808 < n) (h2 : n ≤ 9223372036854775807)
   (h3 : -9223372036854775808 < d) (h4 : d ≤ 9223372036854775807) (hd : ¬ d = 0) :
    Calls Tryz.prog 122 #[.int .i64 n, .int .i64 d] w fun e w' => e = .returned (.int .i64 (gcdM n d)) ∧ Below w.heap.size w w' := by
  by_cases hn0 : n < 0
  · by_cases hd0 : d < 0
    · go_enter Tryz.func122, Tryz.ntmps122
      go_wp2
      go_loopw [0, 1] (fun a b wr => ∃ x y : Int, a = .int .i64 x ∧ b = .int .i64 y ∧ 0 ≤ x ∧ x ≤ 9223372036854775807 ∧ 0 ≤ y ∧ y ≤ 9223372036854775807 ∧ Int.gcd x y = Int.gcd n d ∧ Below w.heap.size w wr) (fun _ b _ => (intOf b).natAbs)
      case atStart => exact ⟨_, _, rfl, rfl, by omega, by omega, by omega, by omega, by simp, Below.refl _ _⟩
      case round =>
        obtain ⟨x, y, rfl, rfl, hx1, hx2, hy1, hy2, hg, hb⟩ := hrel
        have Hg := Lib.hid hg
        have hsz := hb.size
        have hx0 := gcd_zero_of hg hd
        clear hg
        by_cases hy : 0 < y
        · have hy0 : ¬ y = 0 := by omega
          go_wp2
          refine wp_region_quiet_all (fun w' => ∃ x : Lower _, w' = x.val) (by kernel_rfl) (by kernel_rfl) ⟨⟨_, (Below.refl _ _).drew⟩, rfl⟩ ?_
          repeat (go_big_quiet_step (fail))
          refine wpQuiet_nil ?_
          intro w1 hx1
          obtain ⟨x1, hx1⟩ := hx1
          have hb1 := x1.prop
          rw [← hx1] at hb1
          clear hx1 x1
          obtain ⟨hc1, hf1⟩ := bcell hb1
          have hs1 := hb1.size
          try simp at hs1
          try have hz0 : w.heap.size < w1.heap.size := by omega
          try have hz1 : w.heap.size + 1 < w1.heap.size := by omega
          try have hz2 : w.heap.size + 1 + 1 < w1.heap.size := by omega
          try have hz3 : w.heap.size + 1 + 1 + 1 < w1.heap.size := by omega
          try have hz4 : w.heap.size + 1 + 1 + 1 + 1 < w1.heap.size := by omega
          try have hz5 : w.heap.size + 1 + 1 + 1 + 1 + 1 < w1.heap.size := by omega
          go_wp2
          have a1 := Int.emod_nonneg x hy0
          have a2 := Int.emod_lt_of_pos x hy
          go_roundw
          case rel => exact ⟨y, x % y, rfl, rfl, hy1, hy2, by omega, by omega, by rw [gcd_emod]; exact Hg.out, by ((repeat' (first | exact Below.refl _ _ | assumption | refine Below.setCell ?_ ?_ _ | refine bdrewN ?_ _ | refine Below.drew ?_ | refine Below.alloc ?_ ?_ _ | refine bbehind ?_ (by assumption) ?_)); all_goals first | (simp; done) | (simp; omega) | omega)⟩
          case measure => simp [intOf]; omega
        · have hy0 : y = 0 := by omega
          subst hy0
          have hx3 : (x == 0) = false := by simpa using hx0 rfl
          clear hx0
          go_wp2
          go_ret
          exact ⟨ret_int (by unfold gcdM; rw [← Hg.out]; simp; omega), hb⟩
    · go_enter Tryz.func122, Tryz.ntmps122
      go_wp2
      go_loopw [0, 1] (fun a b wr => ∃ x y : Int, a = .int .i64 x ∧ b = .int .i64 y ∧ 0 ≤ x ∧ x ≤ 9223372036854775807 ∧ 0 ≤ y ∧ y ≤ 9223372036854775807 ∧ Int.gcd x y = Int.gcd n d ∧ Below w.heap.size w wr) (fun _ b _ => (intOf b).natAbs)
      case atStart => exact ⟨_, _, rfl, rfl, by omega, by omega, by omega, by omega, by simp, Below.refl _ _⟩
      case round =>
        obtain ⟨x, y, rfl, rfl, hx1, hx2, hy1, hy2, hg, hb⟩ := hrel
        have Hg := Lib.hid hg
        have hsz := hb.size
        have hx0 := gcd_zero_of hg hd
        clear hg
        by_cases hy : 0 < y
        · have hy0 : ¬ y = 0 := by omega
          go_wp2
          refine wp_region_quiet_all (fun w' => ∃ x : Lower _, w' = x.val) (by kernel_rfl) (by kernel_rfl) ⟨⟨_, (Below.refl _ _).drew⟩, rfl⟩ ?_
          repeat (go_big_quiet_step (fail))
          refine wpQuiet_nil ?_
          intro w1 hx1
          obtain ⟨x1, hx1⟩ := hx1
          have hb1 := x1.prop
          rw [← hx1] at hb1
          clear hx1 x1
          obtain ⟨hc1, hf1⟩ := bcell hb1
          have hs1 := hb1.size
          try simp at hs1
          try have hz0 : w.heap.size < w1.heap.size := by omega
          try have hz1 : w.heap.size + 1 < w1.heap.size := by omega
          try have hz2 : w.heap.size + 1 + 1 < w1.heap.size := by omega
          try have hz3 : w.heap.size + 1 + 1 + 1 < w1.heap.size := by omega
          try have hz4 : w.heap.size + 1 + 1 + 1 + 1 < w1.heap.size := by omega
          try have hz5 : w.heap.size + 1 + 1 + 1 + 1 + 1 < w1.heap.size := by omega
          go_wp2
          have a1 := Int.emod_nonneg x hy0
          have a2 := Int.emod_lt_of_pos x hy
          go_roundw
          case rel => exact ⟨y, x % y, rfl, rfl, hy1, hy2, by omega, by omega, by rw [gcd_emod]; exact Hg.out, by ((repeat' (first | exact Below.refl _ _ | assumption | refine Below.setCell ?_ ?_ _ | refine bdrewN ?_ _ | refine Below.drew ?_ | refine Below.alloc ?_ ?_ _ | refine bbehind ?_ (by assumption) ?_)); all_goals first | (simp; done) | (simp; omega) | omega)⟩
          case measure => simp [intOf]; omega
        · have hy0 : y = 0 := by omega
          subst hy0
          have hx3 : (x == 0) = false := by simpa using hx0 rfl
          clear hx0
          go_wp2
          go_ret
          exact ⟨ret_int (by unfold gcdM; rw [← Hg.out]; simp; omega), hb⟩
  · by_cases hd0 : d < 0
    · go_enter Tryz.func122, Tryz.ntmps122
      go_wp2
      go_loopw [0, 1] (fun a b wr => ∃ x y : Int, a = .int .i64 x ∧ b = .int .i64 y ∧ 0 ≤ x ∧ x ≤ 9223372036854775807 ∧ 0 ≤ y ∧ y ≤ 9223372036854775807 ∧ Int.gcd x y = Int.gcd n d ∧ Below w.heap.size w wr) (fun _ b _ => (intOf b).natAbs)
      case atStart => exact ⟨_, _, rfl, rfl, by omega, by omega, by omega, by omega, by simp, Below.refl _ _⟩
      case round =>
        obtain ⟨x, y, rfl, rfl, hx1, hx2, hy1, hy2, hg, hb⟩ := hrel
        have Hg := Lib.hid hg
        have hsz := hb.size
        have hx0 := gcd_zero_of hg hd
        clear hg
        by_cases hy : 0 < y
        · have hy0 : ¬ y = 0 := by omega
          go_wp2
          refine wp_region_quiet_all (fun w' => ∃ x : Lower _, w' = x.val) (by kernel_rfl) (by kernel_rfl) ⟨⟨_, (Below.refl _ _).drew⟩, rfl⟩ ?_
          repeat (go_big_quiet_step (fail))
          refine wpQuiet_nil ?_
          intro w1 hx1
          obtain ⟨x1, hx1⟩ := hx1
          have hb1 := x1.prop
          rw [← hx1] at hb1
          clear hx1 x1
          obtain ⟨hc1, hf1⟩ := bcell hb1
          have hs1 := hb1.size
          try simp at hs1
          try have hz0 : w.heap.size < w1.heap.size := by omega
          try have hz1 : w.heap.size + 1 < w1.heap.size := by omega
          try have hz2 : w.heap.size + 1 + 1 < w1.heap.size := by omega
          try have hz3 : w.heap.size + 1 + 1 + 1 < w1.heap.size := by omega
          try have hz4 : w.heap.size + 1 + 1 + 1 + 1 < w1.heap.size := by omega
          try have hz5 : w.heap.size + 1 + 1 + 1 + 1 + 1 < w1.heap.size := by omega
          go_wp2
          have a1 := Int.emod_nonneg x hy0
          have a2 := Int.emod_lt_of_pos x hy
          go_roundw
          case rel => exact ⟨y, x % y, rfl, rfl, hy1, hy2, by omega, by omega, by rw [gcd_emod]; exact Hg.out, by ((repeat' (first | exact Below.refl _ _ | assumption | refine Below.setCell ?_ ?_ _ | refine bdrewN ?_ _ | refine Below.drew ?_ | refine Below.alloc ?_ ?_ _ | refine bbehind ?_ (by assumption) ?_)); all_goals first | (simp; done) | (simp; omega) | omega)⟩
          case measure => simp [intOf]; omega
        · have hy0 : y = 0 := by omega
          subst hy0
          have hx3 : (x == 0) = false := by simpa using hx0 rfl
          clear hx0
          go_wp2
          go_ret
          exact ⟨ret_int (by unfold gcdM; rw [← Hg.out]; simp; omega), hb⟩
    · go_enter Tryz.func122, Tryz.ntmps122
      go_wp2
      go_loopw [0, 1] (fun a b wr => ∃ x y : Int, a = .int .i64 x ∧ b = .int .i64 y ∧ 0 ≤ x ∧ x ≤ 9223372036854775807 ∧ 0 ≤ y ∧ y ≤ 9223372036854775807 ∧ Int.gcd x y = Int.gcd n d ∧ Below w.heap.size w wr) (fun _ b _ => (intOf b).natAbs)
      case atStart => exact ⟨_, _, rfl, rfl, by omega, by omega, by omega, by omega, by simp, Below.refl _ _⟩
      case round =>
        obtain ⟨x, y, rfl, rfl, hx1, hx2, hy1, hy2, hg, hb⟩ := hrel
        have Hg := Lib.hid hg
        have hsz := hb.size
        have hx0 := gcd_zero_of hg hd
        clear hg
        by_cases hy : 0 < y
        · have hy0 : ¬ y = 0 := by omega
          go_wp2
          refine wp_region_quiet_all (fun w' => ∃ x : Lower _, w' = x.val) (by kernel_rfl) (by kernel_rfl) ⟨⟨_, (Below.refl _ _).drew⟩, rfl⟩ ?_
          repeat (go_big_quiet_step (fail))
          refine wpQuiet_nil ?_
          intro w1 hx1
          obtain ⟨x1, hx1⟩ := hx1
          have hb1 := x1.prop
          rw [← hx1] at hb1
          clear hx1 x1
          obtain ⟨hc1, hf1⟩ := bcell hb1
          have hs1 := hb1.size
          try simp at hs1
          try have hz0 : w.heap.size < w1.heap.size := by omega
          try have hz1 : w.heap.size + 1 < w1.heap.size := by omega
          try have hz2 : w.heap.size + 1 + 1 < w1.heap.size := by omega
          try have hz3 : w.heap.size + 1 + 1 + 1 < w1.heap.size := by omega
          try have hz4 : w.heap.size + 1 + 1 + 1 + 1 < w1.heap.size := by omega
          try have hz5 : w.heap.size + 1 + 1 + 1 + 1 + 1 < w1.heap.size := by omega
          go_wp2
          have a1 := Int.emod_nonneg x hy0
          have a2 := Int.emod_lt_of_pos x hy
          go_roundw
          case rel => exact ⟨y, x % y, rfl, rfl, hy1, hy2, by omega, by omega, by rw [gcd_emod]; exact Hg.out, by ((repeat' (first | exact Below.refl _ _ | assumption | refine Below.setCell ?_ ?_ _ | refine bdrewN ?_ _ | refine Below.drew ?_ | refine Below.alloc ?_ ?_ _ | refine bbehind ?_ (by assumption) ?_)); all_goals first | (simp; done) | (simp; omega) | omega)⟩
          case measure => simp [intOf]; omega
        · have hy0 : y = 0 := by omega
          subst hy0
          have hx3 : (x == 0) = false := by simpa using hx0 rfl
          clear hx0
          go_wp2
          go_ret
          exact ⟨ret_int (by unfold gcdM; rw [← Hg.out]; simp; omega), hb⟩

set_option maxHeartbeats 1600000 in
theorem rcheck_any (n d : Int) (w : World) :
    Calls Tryz.prog 76 #[.agg #[.int .i64 n, .int .i64 d]] w fun e w' => e = .returned (.int .i64 (chk n d)) ∧ Below w.heap.size w w' := by
  cases hD : inB d 1 1000000000 with
  | false =>
    have h1 := inB_not hD
    go_enter Tryz.func76, Tryz.ntmps76
    go_wp2_with (go_at_call 66; refine (in_any _ _ _ _).mono ?_; rintro e w1 ⟨rfl, rfl⟩)
    go_ret
    exact ⟨ret_int (chk3 (by omega)).symm, by ((repeat' (first | exact Below.refl _ _ | assumption | refine Below.setCell ?_ ?_ _ | refine bdrewN ?_ _ | refine Below.drew ?_ | refine Below.alloc ?_ ?_ _ | refine bbehind ?_ (by assumption) ?_)); all_goals first | (simp; done) | (simp; omega) | omega)⟩
  | true =>
    have h1 := inB_of hD
    cases hN : inB n (-1000000000) 1000000000 with
    | false =>
      have h2 := inB_not hN
      go_enter Tryz.func76, Tryz.ntmps76
      go_wp2_with (go_at_call 66; refine (in_any _ _ _ _).mono ?_; rintro e w1 ⟨rfl, rfl⟩)
      go_ret
      exact ⟨ret_int (chk3 (by omega)).symm, by ((repeat' (first | exact Below.refl _ _ | assumption | refine Below.setCell ?_ ?_ _ | refine bdrewN ?_ _ | refine Below.drew ?_ | refine Below.alloc ?_ ?_ _ | refine bbehind ?_ (by assumption) ?_)); all_goals first | (simp; done) | (simp; omega) | omega)⟩
    | true =>
      have h2 := inB_of hN
      by_cases hg : 1 < gcdM n d
      · go_enter Tryz.func76, Tryz.ntmps76
        go_wp2_with (first | (go_at_call 66; refine (in_any _ _ _ _).mono ?_; rintro e w1 ⟨rfl, rfl⟩) | (go_at_call 122; refine (of2_any _ _ _ (by omega) (by omega) (by omega) (by omega) (by omega)).mono ?_; rintro e w1 ⟨rfl, hb1⟩; obtain ⟨hc1, hf1⟩ := bcell hb1; have hs1 := hb1.size; (try simp at hs1); (try have hz0 : w.heap.size < w1.heap.size := by omega); (try have hz1 : w.heap.size + 1 < w1.heap.size := by omega); (try have hz2 : w.heap.size + 1 + 1 < w1.heap.size := by omega); (try have hz3 : w.heap.size + 1 + 1 + 1 < w1.heap.size := by omega); (try have hz4 : w.heap.size + 1 + 1 + 1 + 1 < w1.heap.size := by omega); (try have hz5 : w.heap.size + 1 + 1 + 1 + 1 + 1 < w1.heap.size := by omega)))
        go_ret
        exact ⟨ret_int (by rw [chk_in (by omega), if_pos hg]), by ((repeat' (first | exact Below.refl _ _ | assumption | refine Below.setCell ?_ ?_ _ | refine bdrewN ?_ _ | refine Below.drew ?_ | refine Below.alloc ?_ ?_ _ | refine bbehind ?_ (by assumption) ?_)); all_goals first | (simp; done) | (simp; omega) | omega)⟩
      · go_enter Tryz.func76, Tryz.ntmps76
        go_wp2_with (first | (go_at_call 66; refine (in_any _ _ _ _).mono ?_; rintro e w1 ⟨rfl, rfl⟩) | (go_at_call 122; refine (of2_any _ _ _ (by omega) (by omega) (by omega) (by omega) (by omega)).mono ?_; rintro e w1 ⟨rfl, hb1⟩; obtain ⟨hc1, hf1⟩ := bcell hb1; have hs1 := hb1.size; (try simp at hs1); (try have hz0 : w.heap.size < w1.heap.size := by omega); (try have hz1 : w.heap.size + 1 < w1.heap.size := by omega); (try have hz2 : w.heap.size + 1 + 1 < w1.heap.size := by omega); (try have hz3 : w.heap.size + 1 + 1 + 1 < w1.heap.size := by omega); (try have hz4 : w.heap.size + 1 + 1 + 1 + 1 < w1.heap.size := by omega); (try have hz5 : w.heap.size + 1 + 1 + 1 + 1 + 1 < w1.heap.size := by omega)))
        go_ret
        exact ⟨ret_int (by rw [chk_in (by omega), if_neg (by omega)]), by ((repeat' (first | exact Below.refl _ _ | assumption | refine Below.setCell ?_ ?_ _ | refine bdrewN ?_ _ | refine Below.drew ?_ | refine Below.alloc ?_ ?_ _ | refine bbehind ?_ (by assumption) ?_)); all_goals first | (simp; done) | (simp; omega) | omega)⟩

theorem lowT_of {n d x y : Int} (hx : x = lowN n d) (hy : y = lowD n d) (h1 : -1000000000 ≤ x) (h2 : x ≤ 1000000000) (h3 : y ≤ 1000000000) : (x, y, (0 : Int)) = lowT n d := by
  subst hx hy; exact (lowT_yes (decide_eq_true ⟨h1, h2, h3⟩)).symm
end Go.Proofs.YtcgedpfolloinaaGreat

namespace Go.Proofs.YtcgedpfolloinaaGreat
open Go.RowKit Go.BigFrame

/-- 10 to a power. -/
def p10 (k : Nat) : Int := (10 : Int) ^ k
theorem p10_succ (k : Nat) : p10 (k + 1) = p10 k * 10 := Int.pow_succ _ _
theorem p10_bd (k : Nat) (h : k ≤ 9) : 1 ≤ p10 k ∧ p10 k ≤ 1000000000 := by
  have h1 : (10 : Nat) ^ k ≤ 10 ^ 9 := Nat.pow_le_pow_right (by omega) h
  have h2 : 1 ≤ (10 : Nat) ^ k := Nat.one_le_pow _ _ (by omega)
  have h3 : p10 k = ((10 ^ k : Nat) : Int) := by unfold p10; simp
  omega
theorem p10_bd' (k : Nat) (h : k < 9) : p10 k ≤ 100000000 := by
  have := p10_succ k
  have := (p10_bd (k + 1) (by omega)).2
  omega

set_option maxHeartbeats 400000 in
theorem tenTo_any (p : Nat) (w : World) (hp : p ≤ 9) : Calls Tryz.prog 216 #[.int .i64 p] w fun e w' => e = .returned (.int .i64 (p10 p)) ∧ w = w' := by
  go_enter Tryz.func216, Tryz.ntmps216
  go_wp2
  go_loop [3, 5] (fun s i => ∃ k : Nat, k ≤ p ∧ i = .int .i64 k ∧ s = .int .i64 (p10 k)) (fun _ i => p - (intOf i).toNat)
  case atStart => exact ⟨0, Nat.zero_le _, rfl, rfl⟩
  case round =>
    obtain ⟨k, hk, rfl, rfl⟩ := hrel
    by_cases hlt : k < p
    · have b1 := p10_bd k (by omega)
      have b2 := p10_bd' k (by omega)
      have HS := Lib.hid (p10_succ k)
      go_wp2
      go_round
      case rel => exact ⟨k + 1, by omega, by go_num, by rw [HS.out]⟩
      case measure => simp [intOf]; omega
    · go_wp2
      go_ret
      exact ⟨ret_int (by congr 1; omega), rfl⟩

end Go.Proofs.YtcgedpfolloinaaGreat

namespace Go.Proofs.YtcgedpfolloinaaGreat

/-- the last decimal digit, as a byte. -/
def dig (n : Nat) : UInt8 := UInt8.ofNat (48 + n % 10)
theorem dig_nat (n : Nat) : (dig n).toNat = 48 + n % 10 := by
  unfold dig; rw [UInt8.toNat_ofNat']; omega
/-- the decimal digits of a number. -/
def digs (n : Nat) : List UInt8 := if n < 10 then [dig n] else digs (n / 10) ++ [dig n]
theorem digs_lt {n : Nat} (h : n < 10) : digs n = [dig n] := by rw [digs, if_pos h]
theorem digs_ge {n : Nat} (h : ¬ n < 10) : digs n = digs (n / 10) ++ [dig n] := by rw [digs, if_neg h]

/-- at least so many digits. -/
def padS : Nat → Nat → List UInt8
  | 0, n => if n = 0 then [] else digs n
  | k + 1, n => padS k (n / 10) ++ [dig n]
theorem padS_zero (n : Nat) (h : ¬ n = 0) : padS 0 n = padS 0 (n / 10) ++ [dig n] := by
  unfold padS
  rw [if_neg h]
  by_cases h1 : n < 10
  · rw [digs_lt h1, if_pos (by omega)]; rfl
  · rw [digs_ge h1, if_neg (by omega)]
theorem padS_pred (k n : Nat) (h : 0 < n ∨ 0 < k) : padS k n = padS (k - 1) (n / 10) ++ [dig n] := by
  cases k with
  | zero => exact padS_zero n (by omega)
  | succ k => rfl
theorem padS_one (n : Nat) : padS 1 n = digs n := by
  show padS 0 (n / 10) ++ [dig n] = _
  by_cases h1 : n < 10
  · rw [digs_lt h1]; unfold padS; rw [if_pos (by omega)]; rfl
  · rw [digs_ge h1]; unfold padS; rw [if_neg (by omega)]

theorem digs_len_pos (n : Nat) : 1 ≤ (digs n).length := by
  rw [digs]; split <;> simp
theorem digs_len (j : Nat) : ∀ n, n < 10 ^ (j + 1) → (digs n).length ≤ j + 1 := by
  induction j with
  | zero => intro n h; rw [digs_lt (by simpa using h)]; simp
  | succ j ih =>
    intro n h
    by_cases h1 : n < 10
    · rw [digs_lt h1]; simp
    · rw [digs_ge h1]
      have := ih (n / 10) (by rw [Nat.div_lt_iff_lt_mul (by omega)]; rw [Nat.pow_succ] at h; exact h)
      simp; omega
end Go.Proofs.YtcgedpfolloinaaGreat

namespace Go.Proofs.YtcgedpfolloinaaGreat
open Go.RowKit Go.BigFrame

/-- of what was there, only block b may have turned. -/
structure Only (b : Nat) (w w' : World) : Prop where
  os : w'.os = w.os
  tape : w'.tape = w.tape
  output : w'.output = w.output
  size : w.heap.size ≤ w'.heap.size
  block : ∀ k, k < w.heap.size → k ≠ b → w'.heap[k]? = w.heap[k]?

theorem Only.refl' (b : Nat) (w : World) : Only b w w := ⟨rfl, rfl, rfl, Nat.le_refl _, fun _ _ _ => rfl⟩
theorem only_trans {b : Nat} {w w1 w2 : World} (h : Only b w w1) (k : Only b w1 w2) : Only b w w2 :=
  ⟨k.os.trans h.os, k.tape.trans h.tape, k.output.trans h.output, Nat.le_trans h.size k.size, fun i hi hb => (k.block i (Nat.lt_of_lt_of_le hi h.size) hb).trans (h.block i hi hb)⟩
theorem only_below {b B : Nat} {w w' : World} (h : Only b w w') (hB : B ≤ b) (hw : B ≤ w.heap.size) : Below B w w' :=
  ⟨h.os, h.tape, h.output, h.size, fun i hi => h.block i (by omega) (by omega)⟩
theorem only_of_below {b : Nat} {w w' : World} (h : Below w.heap.size w w') : Only b w w' := ⟨h.os, h.tape, h.output, h.size, fun i hi _ => h.block i hi⟩
theorem only_set {b : Nat} {w w' : World} (h : Only b w w') (i : Nat) (v : Value) : Only b w (w'.setCell ⟨b, i, none⟩ v) :=
  ⟨h.os, h.tape, h.output, by simpa using h.size, fun k hk hb => (Below.heap_setCell w' ⟨b, i, none⟩ v k hb).trans (h.block k hk hb)⟩
theorem only_cell {b : Nat} {w w' : World} (h : Only b w w') {c o : Nat} (hc : c < w.heap.size) (hb : c ≠ b) : w'.cell? ⟨c, o, none⟩ = w.cell? ⟨c, o, none⟩ :=
  World.cell?_of_block (w := w) (a := ⟨c, o, none⟩) (h.block c hc hb)

theorem cs_same {w : World} {a : Addr} {v u : Value} (h : w.cell? a = some u) : (w.setCell a v).cell? a = some v := World.cell?_setCell_same (h := h) ..
theorem cs_other {w : World} {a b : Addr} {v : Value} (h : a ≠ b) : (w.setCell a v).cell? b = w.cell? b := World.cell?_setCell_other (h := h) ..
theorem cs_frozen {w : World} {a b : Addr} {v : Value} : (w.setCell a v).frozen? b = w.frozen? b := World.frozen?_setCell ..

/-- a writer at block b holds a text. -/
structure Wr (w : World) (b : Nat) (l : List UInt8) : Prop where
  lt : b < w.heap.size
  room : l.length ≤ 22
  at_ : w.cell? ⟨b, 22, none⟩ = some (.int .i64 ((22 - l.length : Nat) : Int))
  any : ∀ i, i < 22 → ∃ x, w.cell? ⟨b, i, none⟩ = some (.int .u8 x)
  soft : ∀ i, i ≤ 22 → w.frozen? ⟨b, i, none⟩ = false
  text : ∀ i (h : i < l.length), w.cell? ⟨b, 22 - l.length + i, none⟩ = some (.int .u8 ((l[i]).toNat : Int))

theorem wr_put {w w1 : World} {b n : Nat} {l : List UInt8} (c : UInt8) (h : Wr w b l) (hn : 22 - l.length = n + 1)
    (hw : Below (w.setCell ⟨b, 22, none⟩ (.int .i64 (n : Int))).heap.size (w.setCell ⟨b, 22, none⟩ (.int .i64 (n : Int))) w1) :
    Wr (w1.setCell ⟨b, n, none⟩ (.int .u8 (c.toNat : Int))) b (c :: l) ∧ Only b w (w1.setCell ⟨b, n, none⟩ (.int .u8 (c.toNat : Int))) := by
  obtain ⟨hc, hf⟩ := bcell hw
  have hs := hw.size
  simp only [World.size_setCell] at hc hf hs
  have c22 : w1.cell? ⟨b, 22, none⟩ = some (.int .i64 (n : Int)) := (hc _ _ h.lt).trans (cs_same h.at_)
  have cold : ∀ i, i < 22 → w1.cell? ⟨b, i, none⟩ = w.cell? ⟨b, i, none⟩ := fun i hi => (hc _ _ h.lt).trans (cs_other (fun e => by simp only [Addr.mk.injEq] at e; omega))
  obtain ⟨x, hx⟩ := h.any n (by omega)
  have cx := (cold n (by omega)).trans hx
  refine ⟨⟨by simp only [World.size_setCell]; exact Nat.lt_of_lt_of_le h.lt hs, by simp only [List.length_cons]; omega, ?_, ?_, ?_, ?_⟩, ?_⟩
  · rw [cs_other (fun e => by simp only [Addr.mk.injEq] at e; omega), c22]
    simp only [List.length_cons]; congr 3; omega
  · intro i hi
    by_cases hi2 : i = n
    · subst hi2; exact ⟨_, cs_same cx⟩
    · obtain ⟨y, hy⟩ := h.any i hi
      exact ⟨y, by rw [cs_other (fun e => by simp only [Addr.mk.injEq] at e; omega), cold i hi]; exact hy⟩
  · intro i hi
    rw [cs_frozen, hf _ _ h.lt, cs_frozen]; exact h.soft i hi
  · intro i hi
    cases i with
    | zero =>
      have e : 22 - (c :: l).length + 0 = n := by simp only [List.length_cons]; omega
      rw [e]; exact cs_same cx
    | succ i =>
      have hi' : i < l.length := by simpa using hi
      have e : 22 - (c :: l).length + (i + 1) = 22 - l.length + i := by simp only [List.length_cons]; omega
      rw [e, cs_other (fun e => by simp only [Addr.mk.injEq] at e; omega), cold _ (by omega)]
      simpa using h.text i hi'
  · have o1 : Only b w (w.setCell ⟨b, 22, none⟩ (.int .i64 (n : Int))) := only_set (Only.refl' b w) 22 _
    exact only_set (only_trans o1 (only_of_below hw)) _ _

set_option maxHeartbeats 800000 in
theorem put_any (b : Nat) (l : List UInt8) (c : UInt8) (w : World) (h : Wr w b l) (hl : l.length < 22) :
    Calls Tryz.prog 194 #[.pointer (some ⟨b, 0, none⟩), .int .u8 (c.toNat : Int)] w fun e w' => e = .returned (.tuple #[]) ∧ Only b w w' ∧ Wr w' b (c :: l) := by
  obtain ⟨n, hn⟩ : ∃ n, 22 - l.length = n + 1 := ⟨21 - l.length, by omega⟩
  have P := Lib.hid (fun w1 => wr_put (w1 := w1) c h hn)
  have hn22 : n < 22 := by omega
  obtain ⟨x, hx⟩ := h.any n (by omega)
  have h22 := h.at_
  rw [hn, Int.natCast_add, Int.natCast_one] at h22
  have f22 := h.soft 22 (by omega)
  have fx := h.soft n (by omega)
  have hb := h.lt
  clear h hn hl
  have x1 : ¬ n = 22 := by omega
  have x2 : ¬ 22 = n := by omega
  have x3 : (n : Int) < 22 := by omega
  go_enter Tryz.func194, Tryz.ntmps194
  go_wp2_with fail
  refine wp_region_quiet_tail (fun w' => ∃ x : Lower _, w' = x.val) 9 (by kernel_rfl) (by kernel_rfl) ⟨⟨_, (Below.refl _ _).drew⟩, rfl⟩ ?_
  simp only [List.take_succ_cons, List.take_zero, List.drop_succ_cons, List.drop_zero]
  repeat (go_big_quiet_step (fail))
  refine wpQuiet_nil ?_
  intro w1 hx1
  obtain ⟨x1, hx1⟩ := hx1
  have hb1 := x1.prop
  rw [← hx1] at hb1
  clear hx1 x1
  obtain ⟨hc1, hf1⟩ := bcell hb1
  have hs1 := hb1.size
  try simp at hs1
  try have hz0 : w.heap.size < w1.heap.size := by omega
  try have hz1 : w.heap.size + 1 < w1.heap.size := by omega
  try have hz2 : w.heap.size + 1 + 1 < w1.heap.size := by omega
  try have hz3 : w.heap.size + 1 + 1 + 1 < w1.heap.size := by omega
  try have hz4 : w.heap.size + 1 + 1 + 1 + 1 < w1.heap.size := by omega
  try have hz5 : w.heap.size + 1 + 1 + 1 + 1 + 1 < w1.heap.size := by omega
  go_wp2
  go_end0
  obtain ⟨p1, p2⟩ := P.out _ hb1
  exact ⟨rfl, p2, p1⟩

/-- n, at least so many digits, in front of the text. -/
def numText (n : Int) (k : Int) (l : List UInt8) : List UInt8 := padS k.toNat n.toNat ++ l

theorem put_int (b : Nat) (l : List UInt8) (d : UInt8) (c : Int) (w : World) (hc : c = (d.toNat : Int)) (h : Wr w b l) (hl : l.length < 22) :
    Calls Tryz.prog 194 #[.pointer (some ⟨b, 0, none⟩), .int .u8 c] w fun e w' => e = .returned (.tuple #[]) ∧ Only b w w' ∧ Wr w' b (d :: l) := by
  subst hc; exact put_any b l d w h hl

theorem numText_step {m j : Int} {l : List UInt8} (hm : 0 ≤ m) (h : 0 < m ∨ 0 < j) : numText m j l = numText (m / 10) (j - 1) (dig m.toNat :: l) := by
  unfold numText
  rw [padS_pred _ _ (by omega), List.append_assoc]
  have e1 : (j - 1).toNat = j.toNat - 1 := by omega
  have e2 : (m / 10).toNat = m.toNat / 10 := by omega
  rw [e1, e2]; rfl
theorem numText_end {j : Int} {l : List UInt8} (h : j ≤ 0) : numText 0 j l = l := by
  unfold numText
  rw [show j.toNat = 0 by omega]; rfl
theorem numText_room {m j : Int} {l : List UInt8} (hm : 0 ≤ m) (h : 0 < m ∨ 0 < j) (hl : (numText m j l).length ≤ 22) : l.length < 22 := by
  rw [numText_step hm h] at hl
  unfold numText at hl
  simp at hl
  omega
theorem dig_int (m : Int) (hm : 0 ≤ m) : 48 + m % 10 = ((dig m.toNat).toNat : Int) := by rw [dig_nat]; omega

/-- what holds at each round of 'number'. -/
structure NumRel (w : World) (b : Nat) (n k : Int) (l : List UInt8) (m j : Int) (acc : List UInt8) (wr : World) : Prop where
  lo : 0 ≤ m
  hi : m ≤ 9000000000000000000
  left : j = k + l.length - acc.length
  text : numText m j acc = numText n k l
  only : Only b w wr
  wr : Wr wr b acc

set_option maxHeartbeats 800000 in
theorem number_any (b : Nat) (l : List UInt8) (n k : Int) (w : World) (h : Wr w b l) (hn : 0 ≤ n) (hn2 : n ≤ 9000000000000000000) (hk : 0 ≤ k) (hk2 : k ≤ 100) (hl : (numText n k l).length ≤ 22) :
    Calls Tryz.prog 193 #[.pointer (some ⟨b, 0, none⟩), .int .i64 n, .int .i64 k] w fun e w' => e = .returned (.tuple #[]) ∧ Only b w w' ∧ Wr w' b (numText n k l) := by
  have HW := Lib.hid h; clear h
  have HL := Lib.hid hl; clear hl
  go_enter Tryz.func193, Tryz.ntmps193
  go_wp2_with fail
  go_loopw [1, 2] (fun a c wr => ∃ (m j : Int) (acc : List UInt8), a = .int .i64 m ∧ c = .int .i64 j ∧ NumRel w b n k l m j acc wr) (fun a c _ => (intOf a).toNat + (intOf c).toNat)
  case atStart => exact ⟨n, k, l, rfl, rfl, hn, hn2, by omega, rfl, Only.refl' _ _, HW.out⟩
  case round =>
    obtain ⟨m, j, acc, rfl, rfl, R⟩ := hrel
    have h1 := R.lo
    have h2 := R.hi
    have h3 : -22 ≤ j := by have := R.left; have := R.wr.room; omega
    have h4 : j ≤ 122 := by have := R.left; have := HW.out.room; omega
    have HR := Lib.hid R; clear R
    by_cases hc : 0 < m ∨ 0 < j
    · have hr := numText_room h1 hc (by rw [HR.out.text]; exact HL.out)
      have HP := Lib.hid (put_int b acc (dig m.toNat) (48 + m % 10) wr (dig_int m h1) HR.out.wr hr)
      have HT := Lib.hid (numText_step (l := acc) h1 hc)
      have hm0 := Int.emod_nonneg m (by omega : (10 : Int) ≠ 0)
      have hm1 := Int.emod_lt_of_pos m (by omega : (0 : Int) < 10)
      have hdz := Int.ediv_nonneg h1 (by omega : (0 : Int) ≤ 10)
      by_cases hmp : 0 < m
      · clear hc
        go_wp2_with fail
        refine HP.out.mono ?_
        rintro e w1 ⟨rfl, ho, hw⟩
        have Ho := Lib.hid ho; clear ho
        have Hw := Lib.hid hw; clear hw
        go_wp2
        go_roundw
        case rel => exact ⟨m / 10, j - 1, _, rfl, rfl, by omega, by omega, by have := HR.out.left; simp only [List.length_cons]; omega, by rw [← HT.out]; exact HR.out.text, only_trans HR.out.only Ho.out, Hw.out⟩
        case measure => simp [intOf]; omega
      · have hjp : 0 < j := by omega
        clear hc
        go_wp2_with fail
        refine HP.out.mono ?_
        rintro e w1 ⟨rfl, ho, hw⟩
        have Ho := Lib.hid ho; clear ho
        have Hw := Lib.hid hw; clear hw
        go_wp2
        go_roundw
        case rel => exact ⟨m / 10, j - 1, _, rfl, rfl, by omega, by omega, by have := HR.out.left; simp only [List.length_cons]; omega, by rw [← HT.out]; exact HR.out.text, only_trans HR.out.only Ho.out, Hw.out⟩
        case measure => simp [intOf]; omega
    · have hm0 : m = 0 := by omega
      have hj0 : j ≤ 0 := by omega
      subst hm0
      clear hc
      have HE := Lib.hid (numText_end (l := acc) hj0)
      have hT := HR.out.text
      rw [HE.out] at hT
      have Hacc := Lib.hid hT; clear hT
      go_wp2
      go_end0
      exact ⟨rfl, HR.out.only, by rw [← Hacc.out]; exact HR.out.wr⟩

/-- the sign in front of the text. -/
def signText (n : Int) (l : List UInt8) : List UInt8 := if n < 0 then 45 :: l else l

set_option maxHeartbeats 800000 in
theorem sign_any (b : Nat) (l : List UInt8) (n : Int) (w : World) (h : Wr w b l) (hl : l.length < 22) :
    Calls Tryz.prog 195 #[.pointer (some ⟨b, 0, none⟩), .int .i64 n] w fun e w' => e = .returned (.tuple #[]) ∧ Only b w w' ∧ Wr w' b (signText n l) := by
  unfold signText
  have HP := Lib.hid (put_int b l 45 45 w rfl h hl)
  have HW := Lib.hid h; clear h
  by_cases hn : n < 0
  · rw [if_pos hn]
    go_enter Tryz.func195, Tryz.ntmps195
    go_wp2_with fail
    refine HP.out.mono ?_
    rintro e w1 ⟨rfl, ho, hw⟩
    have Ho := Lib.hid ho; clear ho
    have Hw := Lib.hid hw; clear hw
    go_wp2
    go_end0
    exact ⟨rfl, Ho.out, Hw.out⟩
  · rw [if_neg hn]
    go_enter Tryz.func195, Tryz.ntmps195
    go_wp2
    go_end0
    exact ⟨rfl, Only.refl' _ _, HW.out⟩

theorem wr_new (w : World) (c : Array Value) (t : TypeId) (hz : ∀ i, i < 22 → c[i]? = some (.int .u8 0)) (h22 : c[22]? = some (.int .i64 22)) : Wr (w.alloc (.cells c t)) w.heap.size [] := by
  refine ⟨by simp, by simp, ?_, fun i hi => ⟨0, ?_⟩, fun i _ => ?_, fun i h => absurd h (by simp)⟩
  · rw [World.cell?_alloc_at (hn := rfl)]; exact h22
  · rw [World.cell?_alloc_at (hn := rfl)]; exact hz i hi
  · exact World.frozen?_alloc_at (hn := rfl) ..

set_option maxHeartbeats 800000 in
theorem newWriter_any (w : World) :
    Calls Tryz.prog 192 #[] w fun e w' => e = .returned (.pointer (some ⟨w.heap.size, 0, none⟩)) ∧ Below w.heap.size w w' ∧ Wr w' w.heap.size [] := by
  go_enter Tryz.func192, Tryz.ntmps192
  go_wp2
  go_ret
  refine ⟨rfl, by ((repeat' (first | exact Below.refl _ _ | assumption | refine Below.setCell ?_ ?_ _ | refine bdrewN ?_ _ | refine Below.drew ?_ | refine Below.alloc ?_ ?_ _ | refine bbehind ?_ (by assumption) ?_)); all_goals first | (simp; done) | (simp; omega) | omega), wr_new _ _ _ (fun i hi => ?_) rfl⟩
  have : i = 0 ∨ i = 1 ∨ i = 2 ∨ i = 3 ∨ i = 4 ∨ i = 5 ∨ i = 6 ∨ i = 7 ∨ i = 8 ∨ i = 9 ∨ i = 10 ∨ i = 11 ∨ i = 12 ∨ i = 13 ∨ i = 14 ∨ i = 15 ∨ i = 16 ∨ i = 17 ∨ i = 18 ∨ i = 19 ∨ i = 20 ∨ i = 21 := by omega
  rcases this with rfl | rfl | rfl | rfl | rfl | rfl | rfl | rfl | rfl | rfl | rfl | rfl | rfl | rfl | rfl | rfl | rfl | rfl | rfl | rfl | rfl | rfl <;> rfl

theorem arr22_len : Program.arrayLen Tryz.prog 216 = 22 := by kernel_rfl
theorem arr22_elem : Program.elem Tryz.prog 216 = 5 := by kernel_rfl
theorem arr22_under : (Tryz.prog).underlying 216 = some (.array (Program.arrayLen Tryz.prog 216) (Program.elem Tryz.prog 216)) := by kernel_rfl
theorem size_u8 (w : World) : (sizeOf 5).run Tryz.prog w = .ok 1 w := by kernel_rfl

/-- where the text lies: as the model says it of a slice that has no room. -/
def textAt (b n : Nat) : Addr := if 22 = n then ⟨b, 0, none⟩ else ⟨b, n, none⟩

theorem run_slice_arr (b n : Nat) (hn : n ≤ 22) (w : World) :
    (Instr.sliceAt 216 (.pointer (some ⟨b, 0, none⟩)) (some (.int .i64 (n : Int))) none none).run Tryz.prog w = .ok (.slice (some (textAt b n)) (22 - n) (22 - n)) w := by
  rw [run_sliceAt_array_l (ht := arr22_under) (h0 := by omega) (h1 := by rw [arr22_len]; omega), arr22_elem, size_u8, arr22_len]
  simp only [Result.andThen, slicedAt, textAt, Int.toNat_natCast, Nat.mul_one]
  split <;> simp [Addr.add] <;> omega

set_option maxHeartbeats 800000 in
theorem text_any (b : Nat) (l : List UInt8) (w : World) (h : Wr w b l) :
    Calls Tryz.prog 196 #[.pointer (some ⟨b, 0, none⟩)] w fun e w' => e = .returned (.string ⟨l.toArray⟩) ∧ Below w.heap.size w w' := by
  obtain ⟨n, hn⟩ : ∃ n, 22 - l.length = n := ⟨_, rfl⟩
  have hroom := h.room
  have hll : 22 - n = l.length := by omega
  have h22 := h.at_
  have hb := h.lt
  have hsl : ∀ w, (Instr.sliceAt 216 (.pointer (some ⟨b, 0, none⟩)) (some (.int .i64 (n : Int))) none none).run Tryz.prog w = .ok (.slice (some (textAt b n)) l.length l.length) w := fun w => by
    rw [run_slice_arr b n (by omega), hll]
  have hcv : ∀ x : Lower w, (convert 92 9 (.slice (some (textAt b n)) l.length l.length)).run Tryz.prog x.val = .ok (.string ⟨l.toArray⟩) x.val := fun x => by
    refine run_convert_bytes_back x.val _ _ 5 _ _ l (by kernel_rfl) (by kernel_rfl) (by kernel_rfl) fun j hj => ?_
    have e : (textAt b n).add j = ⟨b, 22 - l.length + j, none⟩ := by
      unfold textAt
      rw [if_neg (by omega), hn]
      unfold Addr.add
      split <;> simp_all
    rw [e, Lower.cell x _ _ hb]
    exact h.text j hj
  rw [hn] at h22
  clear h hn hll hroom
  generalize textAt b n = ad at *
  go_enter Tryz.func196, Tryz.ntmps196
  go_wp2_with fail
  refine wp_region_quiet_all (fun w' => ∃ x : Lower _, w' = x.val) (by kernel_rfl) (by kernel_rfl) ⟨⟨_, (Below.refl _ _).drew⟩, rfl⟩ ?_
  repeat (go_big_quiet_step (fail))
  refine wpQuiet_nil ?_
  intro w1 hx1
  obtain ⟨x1, hx1⟩ := hx1
  have hb1 := x1.prop
  rw [← hx1] at hb1
  clear hx1 x1
  obtain ⟨hc1, hf1⟩ := bcell hb1
  have hs1 := hb1.size
  try simp at hs1
  try have hz0 : w.heap.size < w1.heap.size := by omega
  try have hz1 : w.heap.size + 1 < w1.heap.size := by omega
  try have hz2 : w.heap.size + 1 + 1 < w1.heap.size := by omega
  try have hz3 : w.heap.size + 1 + 1 + 1 < w1.heap.size := by omega
  try have hz4 : w.heap.size + 1 + 1 + 1 + 1 < w1.heap.size := by omega
  try have hz5 : w.heap.size + 1 + 1 + 1 + 1 + 1 < w1.heap.size := by omega
  go_wp2
  go_ret
  exact ⟨rfl, by ((repeat' (first | exact Below.refl _ _ | assumption | refine Below.setCell ?_ ?_ _ | refine bdrewN ?_ _ | refine Below.drew ?_ | refine Below.alloc ?_ ?_ _ | refine bbehind ?_ (by assumption) ?_)); all_goals first | (simp; done) | (simp; omega) | omega)⟩
end Go.Proofs.YtcgedpfolloinaaGreat
