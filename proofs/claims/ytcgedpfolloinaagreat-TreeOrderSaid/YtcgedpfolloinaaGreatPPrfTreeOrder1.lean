/- What the proof of PrfTreeOrder rests on, part 1 of 13. -/
import Derived.Test.YtcgedpfolloinaaGreatRows
import Derived.WalkKit
import Derived.Deep.QuietTactic
import Derived.StillTail
import Derived.WalkSpells
import Derived.WalkLawsBesides
import Derived.BigQuiet
import Derived.Outline
import Derived.Lib.Hide
import Derived.Laws.EntriesVeiled
import Derived.OpenShut
import Derived.ProofKit
import Derived.ChangeOld
import Derived.Deep.SlicePairs
namespace Go.Proofs.YtcgedpfolloinaaGreat
open Go

section
variable {P : Program} {ops : Array Oper} {md : Region.Mode} {C : World → Prop}

/-- The head comes first, whatever is drawn; each of its operations is quiet. -/
def headQ (P : Program) (md : Region.Mode) (ops : Array Oper) (C : World → Prop) (n : Nat) (L : Array Bool → Act → Prop) : Nat → Array Bool → Act → Prop
  | 0, ls, a => L ls a
  | f + 1, ls, a => Region.ready md ops ls ≠ [] ∧ ∀ i ∈ Region.ready md ops ls, i < n ∧ qOp P ops C i (headQ P md ops C n L f (ls.setIfInBounds i true)) a

theorem any_of_headQ {n g : Nat} {L : Array Bool → Act → Prop} {Q' : Exit → Act → World → Prop} (hL : ∀ ls a w, C w → L ls a → wpAny P md ops Q' g ls a w) :
    ∀ (f : Nat) (ls : Array Bool) (a : Act) (w : World), C w → headQ P md ops C n L f ls a → wpAny P md ops Q' (f + g) ls a w
  | 0, ls, a, w, hw, h => by rw [Nat.zero_add]; exact hL _ _ _ hw h
  | f + 1, ls, a, w, hw, h => by
    rw [Nat.add_right_comm]
    exact ⟨fun h0 => absurd h0 h.1, fun i hi => wpOp_of_qOp hw (fun a' w' hw' k => any_of_headQ hL f _ a' w' hw' k) (h.2 i hi).2⟩

theorem headQ_take {n i : Nat} {oi : Oper} {v : Value} {L : Array Bool → Act → Prop} (hi : ops[i]? = some oi) (hsel : ∀ (j : Nat) (o : Oper) cs b, ops[j]? = some o → o.op ≠ .select cs b)
    (hs : Region.sinkB md ops n = true) (hc : Region.chainB md ops n = true) (hn : n < ops.size) (hin : i < n)
    (hdone : ∀ ls a, L ls a → ∀ j ∈ Region.ready md ops ls, n ≤ j) :
    ∀ (f : Nat) (ls : Array Bool) (a : Act), HeadInv md ops n ls →
      (∀ j oj, ops[j]? = some oj → j ≠ i → ls.getD j true = false → (∀ e ∈ oj.after, Region.binds md e = true → e.on ≠ i) → oi.apart ops oj = true) →
      i ∈ Region.ready md ops ls → YieldsIn P ops C oi v a →
      headQ P md ops C n L f (ls.setIfInBounds i true) (a.put oi.dst v) → headQ P md ops C n L (f + 1) ls a := by
  intro f
  induction f with
  | zero =>
    intro ls a inv _ hr hy H
    have hun := (mem_ready.1 hr).1
    refine ⟨fun h => absurd hr (by simp [h]), fun j hj => ?_⟩
    have hjn : j < n := (Nat.lt_or_ge j n).elim id fun h => absurd hj (tail_waits hs hc hn inv _ i rfl hin hun j h)
    by_cases hji : j = i
    · subst hji; exact ⟨hjn, hy.qOp hi H⟩
    · exact absurd (hdone _ _ H j (ready_mono hj hji)) (by omega)
  | succ f ih =>
    intro ls a inv hfree hr hy H
    have hun := (mem_ready.1 hr).1
    refine ⟨fun h => absurd hr (by simp [h]), fun j hj => ?_⟩
    have hjn : j < n := (Nat.lt_or_ge j n).elim id fun h => absurd hj (tail_waits hs hc hn inv _ i rfl hin hun j h)
    by_cases hji : j = i
    · subst hji; exact ⟨hjn, hy.qOp hi H⟩
    · obtain ⟨hjun, oj, hoj, hall⟩ := mem_ready.1 hj
      have hnot : ∀ e ∈ oj.after, Region.binds md e = true → e.on ≠ i := fun e he hb hq => by
        have h3 := hall e he hb
        rw [hq, getD_both hun] at h3
        cases h3
      have h2 := qOp_put hoj (hfree j oj hoj hji hjun hnot) (fun cs b => hsel i oi cs b hi) (fun cs b => hsel j oj cs b hoj) hy (H.2 j (ready_mono hj hji)).2
      refine ⟨hjn, qOp_mono (fun a' h3 => ih (ls.setIfInBounds j true) a' (inv.set hj hjn) (fun k ok hk hki hu hno => hfree k ok hk hki ?_ hno) (ready_mono hr (Ne.symm hji)) h3.1 ?_) h2⟩
      · by_cases hjk : j = k
        · subst hjk; exact hjun
        · rwa [getD_set_ne true hjk] at hu
      · rw [Array.setIfInBounds_comm _ _ hji]; exact h3.2

theorem headQ_lex {n g : Nat} {Lq : Act → Prop} (hsel : Region.noSelect ops = true) (hs : Region.sinkB md ops n = true) (hc : Region.chainB md ops n = true) (hn : n < ops.size) :
    ∀ (l : List Oper) (k : Nat) (ls : Array Bool) (a : Act), (∀ j, j < l.length → l[j]? = ops[k + j]?) → k + l.length = n → HeadInv md ops n ls →
    Region.lexHead md ops g l.length k ls = true → wpQuiet P ops C Lq l a →
    headQ P md ops C n (fun ls' a' => Region.seqB md ops g n ls' = true ∧ Lq a') l.length ls a
  | [], k, ls, a, _, hk, _, hB, h => by
    obtain rfl : k = n := by simpa using hk
    exact ⟨by simpa [Region.lexHead] using hB, h⟩
  | o :: l, k, ls, a, hl, hk, inv, hB, h => by
    have h0 : ops[k]? = some o := by simpa using (hl 0 (by simp)).symm
    simp only [List.length_cons, Region.lexHead, Bool.and_eq_true] at hB
    obtain ⟨⟨hr, hf⟩, hB'⟩ := hB
    simp only [List.length_cons] at hk
    have hkn : k < n := by omega
    have hr' : k ∈ Region.ready md ops ls := by simpa using hr
    have hq : qOp P ops C k (wpQuiet P ops C Lq l) a := by unfold qOp; simp only [h0]; exact h
    obtain ⟨v, hy, hK⟩ := yieldsIn_of_qOp h0 hq
    exact headQ_take h0 (Region.noSelect_spec hsel) hs hc hn hkn (fun ls' a' hL => seqB_ready hL.1) l.length ls a inv (Region.free_spec h0 hf) hr' hy
      (headQ_lex hsel hs hc hn l (k + 1) _ _ (fun j hj => by have := hl (j + 1) (by simp; omega); simpa [Nat.add_assoc, Nat.add_comm 1 j] using this) (by omega) (inv.set hr' hkn) hB' hK)

/-- A region that draws its order: the first n operations quiet in the class, the rest in their one order. -/
theorem wp_region_quiet_tail {id : Nat} {Q : Exit → Act → World → Prop} {a : Act} {w : World} {l : List Oper} (C : World → Prop) (n : Nat) (hm : P.follows .mixedOrders = true) (hB : Region.lexTailB .any l.toArray n = true)
    (hC : C { w with drawn := w.drawn + 1 }) (h : wpQuiet P l.toArray C (fun a' => ∀ w', C w' → wpList P l.toArray Q (l.drop n) a' w') (l.take n) a) : (Code.region id l.toArray true).wp P Q a w := by
  simp only [Region.lexTailB, Bool.and_eq_true, decide_eq_true_eq] at hB
  obtain ⟨⟨⟨⟨hsel, hn⟩, hs⟩, hc⟩, hlex⟩ := hB
  have hn' : n < l.length := by simpa using hn
  have htl : (l.take n).length = n := by simp; omega
  have hdl : (l.drop n).length = l.toArray.size - n := by simp
  have inv0 : HeadInv .any l.toArray n (Array.replicate l.toArray.size false) :=
    ⟨by simp, fun j oj _ hl => (by rw [getD_replicate_false] at hl; cases hl), fun t _ ht => getD_in (by simpa using ht) (getD_replicate_false _ _)⟩
  have H := headQ_lex (md := .any) (g := l.toArray.size - n) hsel hs hc hn (l.take n) 0 _ a (fun j hj => by
    have hj' : j < n := by rw [htl] at hj; exact hj
    simp [hj']) (by simpa using htl) inv0 (by rw [htl]; exact hlex) h
  refine wp_region_any hm ?_
  have := any_of_headQ (Q' := Q) (g := l.toArray.size - n) (fun ls a' w' hw hL => by
    have := wpAny_of_seq (md := .any) (Q' := Q) (l.drop n) n ls a' w' (fun j => by simp [List.getElem?_drop]) (by rw [hdl]; exact hL.1) (hL.2 w' hw)
    rwa [hdl] at this) _ _ _ _ hC H
  rw [htl, show n + (l.toArray.size - n) = l.toArray.size by omega] at this
  exact this

/-- The same with no tail. -/
theorem wp_region_quiet_all {id : Nat} {Q : Exit → Act → World → Prop} {a : Act} {w : World} {l : List Oper} (C : World → Prop) (hm : P.follows .mixedOrders = true) (hB : Region.lexB .any l.toArray = true)
    (hC : C { w with drawn := w.drawn + 1 }) (h : wpQuiet P l.toArray C (fun a' => ∀ w', C w' → Q .normal a' w') l a) : (Code.region id l.toArray true).wp P Q a w :=
  wp_region_quiet (C := C) hm hB hC (by simpa using h)

/-- The class to use: a world that is as W was, below W's own size. -/
structure Lower (W : World) where
  val : World
  prop : Go.RowKit.Below W.heap.size W val

instance {W : World} : Nonempty (Lower W) := ⟨⟨W, Go.RowKit.Below.refl _ _⟩⟩

@[go_sem] theorem Lower.cell {W : World} (x : Lower W) (b o : Nat) (h : b < W.heap.size) : x.val.cell? ⟨b, o, none⟩ = W.cell? ⟨b, o, none⟩ := x.prop.cell (p := ⟨b, o, none⟩) h
@[go_sem] theorem Lower.frozen {W : World} (x : Lower W) (b o : Nat) (h : b < W.heap.size) : x.val.frozen? ⟨b, o, none⟩ = W.frozen? ⟨b, o, none⟩ := x.prop.frozen (p := ⟨b, o, none⟩) h

/-- A callee's contract in such a world. -/
theorem calls_lower {f : FuncId} {args : Array Value} {W : World} {v : Value} (x : Lower W)
    (h : Calls P f args x.val fun e w' => e = .returned v ∧ Go.RowKit.Below x.val.heap.size x.val w') : Calls P f args x.val fun e w'' => e = .returned v ∧ ∃ y : Lower W, w'' = y.val :=
  h.mono fun _ _ ⟨he, hm⟩ => ⟨he, ⟨_, x.prop.trans (hm.mono x.prop.size)⟩, rfl⟩
theorem calls_lower_same {f : FuncId} {args : Array Value} {W : World} {v : Value} (x : Lower W)
    (h : Calls P f args x.val fun e w' => e = .returned v ∧ x.val = w') : Calls P f args x.val fun e w'' => e = .returned v ∧ ∃ y : Lower W, w'' = y.val :=
  h.mono fun _ _ ⟨he, hm⟩ => ⟨he, x, hm.symm⟩

end
end Go.Proofs.YtcgedpfolloinaaGreat

namespace Go.Proofs.YtcgedpfolloinaaGreat
open Go.RowKit

theorem ret_int {k : IntKind} {a b : Int} (h : a = b) : Ending.returned (.int k a) = .returned (.int k b) := by rw [h]
theorem ret_bool {a b : Bool} (h : a = b) : Ending.returned (.bool a) = .returned (.bool b) := by rw [h]

theorem bcell {W w1 : World} (hb : Below W.heap.size W w1) : (∀ b o, b < W.heap.size → w1.cell? ⟨b, o, none⟩ = W.cell? ⟨b, o, none⟩) ∧ (∀ b o, b < W.heap.size → w1.frozen? ⟨b, o, none⟩ = W.frozen? ⟨b, o, none⟩) :=
  ⟨fun b o h => hb.cell (p := ⟨b, o, none⟩) h, fun b o h => hb.frozen (p := ⟨b, o, none⟩) h⟩

theorem bdrewN {B : Nat} {a w : World} (h : Below B a w) (n : Nat) : Below B a (w.drewN n) := ⟨h.os, h.tape, h.output, h.size, h.block⟩

/-- One thing more that a call made on top of what was made before it. -/
theorem bbehind {B : Nat} {a w w' : World} (h : Below B a w) (hb : Below w.heap.size w w') (hB : B ≤ w.heap.size) : Below B a w' := h.trans (hb.mono hB)

end Go.Proofs.YtcgedpfolloinaaGreat

namespace Go.Proofs.YtcgedpfolloinaaGreat
open Go.RowKit

/-- a head, its strings as lists of bytes. -/
structure Hd where
  k : Int
  l : List UInt8
  ats : List (List UInt8 × List UInt8)
  n : Int
  d : Int
  x : List UInt8

/-- a forest: nothing, or a tree (its head, its kids) and the trees beside it. -/
inductive Fo where
  | nil
  | cons (h : Hd) (ks r : Fo)


namespace Fo
def len : Fo → Nat
  | nil => 0
  | cons _ _ r => r.len + 1
def drop : Nat → Fo → Fo
  | 0, f => f
  | _ + 1, nil => nil
  | i + 1, cons _ _ r => r.drop i
def take : Nat → Fo → Fo
  | 0, _ => nil
  | _ + 1, nil => nil
  | i + 1, cons h ks r => cons h ks (r.take i)
def app : Fo → Fo → Fo
  | nil, g => g
  | cons h ks r, g => cons h ks (r.app g)
def size : Fo → Nat
  | nil => 0
  | cons _ ks r => ks.size + r.size + 1
def deep : Fo → Nat
  | nil => 0
  | cons _ ks r => max (ks.deep + 1) r.deep

theorem drop_nil : ∀ i, drop i nil = nil
  | 0 => rfl
  | _ + 1 => rfl
theorem drop_lt : ∀ (i : Nat) (f : Fo), i < f.len → ∃ h ks, f.drop i = cons h ks (f.drop (i + 1))
  | _, nil, h => by simp [len] at h
  | 0, cons h ks r, _ => ⟨h, ks, rfl⟩
  | i + 1, cons h ks r, hl => by
    obtain ⟨h', ks', e⟩ := drop_lt i r (by simp [len] at hl; omega)
    exact ⟨h', ks', by simpa [drop] using e⟩
theorem drop_ge : ∀ (i : Nat) (f : Fo), f.len ≤ i → f.drop i = nil
  | i, nil, _ => drop_nil i
  | 0, cons h ks r, hl => by simp [len] at hl
  | i + 1, cons h ks r, hl => by simp [drop]; exact drop_ge i r (by simp [len] at hl; omega)
theorem len_nil {f : Fo} (h : f.len = 0) : f = nil := by
  cases f with
  | nil => rfl
  | cons h ks r => simp [len] at h
theorem len_le_size : ∀ f : Fo, f.len ≤ f.size
  | nil => Nat.le_refl _
  | cons _ ks r => by have := len_le_size r; simp [len, size]; omega
theorem deep_le_size : ∀ f : Fo, f.deep ≤ f.size
  | nil => Nat.le_refl _
  | cons _ ks r => by have := deep_le_size r; have := deep_le_size ks; simp [deep, size]; omega
theorem take_len : ∀ f : Fo, f.take f.len = f
  | nil => rfl
  | cons h ks r => by simp [take, len, take_len r]
theorem take_app_drop : ∀ (i : Nat) (f : Fo), (f.take i).app (f.drop i) = f
  | 0, f => rfl
  | _ + 1, nil => rfl
  | i + 1, cons h ks r => by simp [take, drop, app, take_app_drop i r]
theorem app_nil : ∀ f : Fo, f.app nil = f
  | nil => rfl
  | cons h ks r => by simp [app, app_nil r]
theorem app_assoc : ∀ f g k : Fo, (f.app g).app k = f.app (g.app k)
  | nil, _, _ => rfl
  | cons h ks r, g, k => by simp [app, app_assoc r g k]
theorem size_app : ∀ f g : Fo, (f.app g).size = f.size + g.size
  | nil, g => by simp [app, size]
  | cons h ks r, g => by simp [app, size, size_app r g]; omega
theorem take_succ : ∀ (i : Nat) (f : Fo) {h : Hd} {ks r : Fo}, f.drop i = cons h ks r → f.take (i + 1) = (f.take i).app (cons h ks nil)
  | 0, nil, _, _, _, e => by simp [drop] at e
  | 0, cons h ks r, _, _, _, e => by simp only [drop, cons.injEq] at e; obtain ⟨rfl, rfl, rfl⟩ := e; simp [take, app]
  | i + 1, nil, _, _, _, e => by simp [drop] at e
  | i + 1, cons h ks r, _, _, _, e => by simp only [drop] at e; simp only [take, app]; rw [← take_succ i r e]
end Fo

/-- attributes in a row of cells: a name, a value, a name, .. -/
def AttrsLie (w : World) (v : Value) (l : List (List UInt8 × List UInt8)) : Prop :=
  (∃ a cap, v = .slice a 0 cap ∧ l = []) ∨ ∃ b off cap, v = .slice (some ⟨b, off, none⟩) l.length cap ∧ l.length ≤ cap ∧ l.length ≤ 4398046510976 ∧ b < w.heap.size ∧
    ∀ k, k < l.length → w.cell? ⟨b, off + k * 2, none⟩ = some (.string ⟨(l.getD k ([], [])).1.toArray⟩) ∧ w.cell? ⟨b, off + k * 2 + 1, none⟩ = some (.string ⟨(l.getD k ([], [])).2.toArray⟩)

/-- a head in six cells. -/
def HdAt (w : World) (h : Hd) (b o : Nat) : Prop :=
  w.cell? ⟨b, o, none⟩ = some (.int .i64 h.k) ∧ w.cell? ⟨b, o + 1, none⟩ = some (.string ⟨h.l.toArray⟩) ∧ (∃ va, w.cell? ⟨b, o + 2, none⟩ = some va ∧ AttrsLie w va h.ats) ∧
  w.cell? ⟨b, o + 3, none⟩ = some (.int .i64 h.n) ∧ w.cell? ⟨b, o + 4, none⟩ = some (.int .i64 h.d) ∧ w.cell? ⟨b, o + 5, none⟩ = some (.string ⟨h.x.toArray⟩)

/-- trees in a row, seven cells a tree. -/
def RowAt (w : World) : Fo → Nat → Nat → Prop
  | .nil, _, _ => True
  | .cons h ks r, b, o => HdAt w h b o ∧ (∃ v, w.cell? ⟨b, o + 6, none⟩ = some v ∧
      ((∃ a cap, v = .slice a 0 cap ∧ ks = .nil) ∨ ∃ b' o' cap, v = .slice (some ⟨b', o', none⟩) ks.len cap ∧ ks.len ≤ cap ∧ ks.len ≤ 2000000000000 ∧ b' < w.heap.size ∧ RowAt w ks b' o')) ∧ RowAt w r b (o + 7)

/-- where a forest lies. -/
def Lies (w : World) (v : Value) (f : Fo) : Prop :=
  (∃ a cap, v = .slice a 0 cap ∧ f = .nil) ∨ ∃ b o cap, v = .slice (some ⟨b, o, none⟩) f.len cap ∧ f.len ≤ cap ∧ f.len ≤ 2000000000000 ∧ b < w.heap.size ∧ RowAt w f b o

theorem rowAt_cons {w : World} {h : Hd} {ks r : Fo} {b o : Nat} : RowAt w (.cons h ks r) b o ↔ HdAt w h b o ∧ (∃ v, w.cell? ⟨b, o + 6, none⟩ = some v ∧ Lies w v ks) ∧ RowAt w r b (o + 7) := Iff.rfl

theorem attrs_below {w w' : World} {v : Value} {l : List (List UInt8 × List UInt8)} (h : AttrsLie w v l) (k : Below w.heap.size w w') : AttrsLie w' v l := by
  rcases h with h | ⟨b, off, cap, h1, h0, h4, h2, h3⟩
  · exact .inl h
  · obtain ⟨hc, _⟩ := bcell k
    exact .inr ⟨b, off, cap, h1, h0, h4, Nat.lt_of_lt_of_le h2 k.size, fun i hi => ⟨(hc _ _ h2).trans (h3 i hi).1, (hc _ _ h2).trans (h3 i hi).2⟩⟩

theorem hdAt_below {w w' : World} {h : Hd} {b o : Nat} (hb : b < w.heap.size) (k : Below w.heap.size w w') (H : HdAt w h b o) : HdAt w' h b o := by
  obtain ⟨hc, _⟩ := bcell k
  obtain ⟨h0, h1, ⟨va, h2, ha⟩, h3, h4, h5⟩ := H
  exact ⟨(hc _ _ hb).trans h0, (hc _ _ hb).trans h1, ⟨va, (hc _ _ hb).trans h2, attrs_below ha k⟩, (hc _ _ hb).trans h3, (hc _ _ hb).trans h4, (hc _ _ hb).trans h5⟩

theorem rowAt_below {w w' : World} (k : Below w.heap.size w w') : ∀ (f : Fo) (b o : Nat), b < w.heap.size → RowAt w f b o → RowAt w' f b o
  | .nil, _, _, _, _ => trivial
  | .cons h ks r, b, o, hb, H => by
    obtain ⟨hc, _⟩ := bcell k
    obtain ⟨h1, ⟨v, h2, h3⟩, h4⟩ := H
    refine ⟨hdAt_below hb k h1, ⟨v, (hc _ _ hb).trans h2, ?_⟩, rowAt_below k r b (o + 7) hb h4⟩
    rcases h3 with h3 | ⟨b', o', cap, e, e0, e3, e1, e2⟩
    · exact .inl h3
    · exact .inr ⟨b', o', cap, e, e0, e3, Nat.lt_of_lt_of_le e1 k.size, rowAt_below k ks b' o' e1 e2⟩

theorem lies_below {w w' : World} {v : Value} {f : Fo} (h : Lies w v f) (k : Below w.heap.size w w') : Lies w' v f := by
  rcases h with h | ⟨b, o, cap, h1, h0, h4, h2, h3⟩
  · exact .inl h
  · exact .inr ⟨b, o, cap, h1, h0, h4, Nat.lt_of_lt_of_le h2 k.size, rowAt_below k f b o h2 h3⟩

theorem rowAt_drop {w : World} {b : Nat} : ∀ (i : Nat) (f : Fo) (o : Nat), RowAt w f b o → RowAt w (f.drop i) b (o + i * 7)
  | 0, f, o, h => by simpa [Fo.drop] using h
  | i + 1, .nil, o, h => trivial
  | i + 1, .cons hd ks r, o, h => by
    have := rowAt_drop i r (o + 7) h.2.2
    rw [show o + 7 + i * 7 = o + (i + 1) * 7 by omega] at this
    exact this

theorem attrs_form {w : World} {v : Value} {l : List (List UInt8 × List UInt8)} (h : AttrsLie w v l) : ∃ a cap, v = .slice a l.length cap := by
  rcases h with ⟨a, cap, rfl, rfl⟩ | ⟨b, o, cap, rfl, _⟩
  · exact ⟨a, cap, rfl⟩
  · exact ⟨_, cap, rfl⟩
theorem attrs_row {w : World} {v : Value} {l : List (List UInt8 × List UInt8)} (h : AttrsLie w v l) (h0 : 0 < l.length) : ∃ b off cap, v = .slice (some ⟨b, off, none⟩) l.length cap ∧ l.length ≤ cap ∧ l.length ≤ 4398046510976 ∧ b < w.heap.size ∧
    ∀ k, k < l.length → w.cell? ⟨b, off + k * 2, none⟩ = some (.string ⟨(l.getD k ([], [])).1.toArray⟩) ∧ w.cell? ⟨b, off + k * 2 + 1, none⟩ = some (.string ⟨(l.getD k ([], [])).2.toArray⟩) := by
  rcases h with ⟨a, cap, rfl, rfl⟩ | h
  · exact absurd h0 (by simp)
  · exact h
theorem lies_form {w : World} {v : Value} {f : Fo} (h : Lies w v f) : ∃ a cap, v = .slice a f.len cap := by
  rcases h with ⟨a, cap, rfl, rfl⟩ | ⟨b, o, cap, rfl, _⟩
  · exact ⟨a, cap, rfl⟩
  · exact ⟨_, cap, rfl⟩
theorem lies_len {w : World} {v : Value} {f : Fo} (h : Lies w v f) : f.len ≤ 2000000000000 := by
  rcases h with ⟨a, cap, rfl, rfl⟩ | ⟨b, o, cap, rfl, _, h, _⟩
  · simp [Fo.len]
  · exact h
theorem lies_row {w : World} {v : Value} {f : Fo} (h : Lies w v f) (h0 : 0 < f.len) : ∃ b o cap, v = .slice (some ⟨b, o, none⟩) f.len cap ∧ f.len ≤ cap ∧ f.len ≤ 2000000000000 ∧ b < w.heap.size ∧ RowAt w f b o := by
  rcases h with ⟨a, cap, rfl, rfl⟩ | h
  · exact absurd h0 (by simp [Fo.len])
  · exact h

/-- what tree number i of a row is. -/
theorem row_get {w : World} {f : Fo} {b o i : Nat} (h : RowAt w f b o) (hi : i < f.len) : ∃ hd ks, f.drop i = .cons hd ks (f.drop (i + 1)) ∧ HdAt w hd b (o + i * 7) ∧ ∃ v, w.cell? ⟨b, o + i * 7 + 6, none⟩ = some v ∧ Lies w v ks := by
  obtain ⟨hd, ks, e⟩ := Fo.drop_lt i f hi
  have := rowAt_drop i f o h
  rw [e] at this
  exact ⟨hd, ks, e, this.1, this.2.1⟩
theorem blk_lt {w : World} {b o : Nat} {v : Value} (h : w.cell? ⟨b, o, none⟩ = some v) : b < w.heap.size := by
  by_cases hb : b < w.heap.size
  · exact hb
  · exfalso
    have : w.heap[b]? = none := Array.getElem?_eq_none (by omega)
    unfold World.cell? at h
    simp [this] at h
end Go.Proofs.YtcgedpfolloinaaGreat

namespace Go.Proofs.YtcgedpfolloinaaGreat
open Go.RowKit

set_option maxHeartbeats 400000 in
theorem abs_any (n : Int) (w : World) (h1 : -9223372036854775808 < n) (h2 : n ≤ 9223372036854775807) :
    Calls Tryz.prog 154 #[.int .i64 n] w fun e w' => e = .returned (.int .i64 (n.natAbs : Int)) ∧ w = w' := by
  by_cases h : n < 0
  · go_enter Tryz.func154, Tryz.ntmps154
    go_wp2
    go_ret
    exact ⟨ret_int (by omega), rfl⟩
  · go_enter Tryz.func154, Tryz.ntmps154
    go_wp2
    go_ret
    exact ⟨ret_int (by omega), rfl⟩

def gcdM (n d : Int) : Int := (Int.gcd n d : Int)

theorem gcd_tmod (x y : Int) : Int.gcd y (x.tmod y) = Int.gcd x y := by
  rw [Int.gcd_comm x y]
  conv => rhs; rw [← Int.tdiv_mul_add_tmod x y, Int.add_comm]
  simp

theorem tmod_lt (x y : Int) (hy : ¬ y = 0) : (x.tmod y).natAbs < y.natAbs := by
  rw [Int.natAbs_tmod]; exact Nat.mod_lt _ (by omega)

set_option maxHeartbeats 400000 in
theorem gcd_any (n d : Int) (w : World) (h1 : -9223372036854775808 < n) (h2 : n ≤ 9223372036854775807)
   (h3 : -9223372036854775808 < d) (h4 : d ≤ 9223372036854775807) :
    Calls Tryz.prog 120 #[.int .i64 n, .int .i64 d] w fun e w' => e = .returned (.int .i64 (gcdM n d)) ∧ Below w.heap.size w w' := by
  go_enter Tryz.func120, Tryz.ntmps120
  go_wp2
  go_loopw [0, 1] (fun a b wr => ∃ x y : Int, a = .int .i64 x ∧ b = .int .i64 y ∧ -9223372036854775808 < x ∧ x ≤ 9223372036854775807 ∧ -9223372036854775808 < y ∧ y ≤ 9223372036854775807 ∧ Int.gcd x y = Int.gcd n d ∧ Below w.heap.size w wr) (fun _ b _ => (intOf b).natAbs)
  case atStart => exact ⟨n, d, rfl, rfl, h1, h2, h3, h4, rfl, Below.refl _ _⟩
  case round =>
    obtain ⟨x, y, rfl, rfl, hx1, hx2, hy1, hy2, hg, hb⟩ := hrel
    have Hg := Lib.hid hg; clear hg
    by_cases hy : y = 0
    · subst hy
      go_wp2_with (go_at_call 154; refine (abs_any _ _ (by omega) (by omega)).mono ?_; rintro e w' ⟨rfl, rfl⟩)
      go_ret
      exact ⟨ret_int (by unfold gcdM; rw [← Hg.out]; simp), hb⟩
    · have hy' : (y != 0) = true := by simpa using hy
      go_wp2
      go_quiet (fail)
      go_wp2
      have a1 := tmod_lt x y hy
      go_roundw
      case rel => exact ⟨y, x.tmod y, rfl, rfl, hy1, hy2, by omega, by omega, by rw [gcd_tmod]; exact Hg.out, bdrewN hb _⟩
      case measure => simp [intOf]; exact Nat.mod_lt _ (by omega)

/-- the error of a number. -/
def chk (n d : Int) : Int := if d < 1 ∨ d > 1000000000 ∨ n < -1000000000 ∨ n > 1000000000 then 3 else if 1 < gcdM n d then 1 else 0

theorem chk3 {n d : Int} (h : d < 1 ∨ d > 1000000000 ∨ n < -1000000000 ∨ n > 1000000000) : chk n d = 3 := if_pos h
theorem chk_in {n d : Int} (h : ¬(d < 1 ∨ d > 1000000000 ∨ n < -1000000000 ∨ n > 1000000000)) : chk n d = if 1 < gcdM n d then 1 else 0 := if_neg h

set_option maxHeartbeats 400000 in
theorem check_any (n d : Int) (w : World) :
    Calls Tryz.prog 73 #[.agg #[.int .i64 n, .int .i64 d]] w fun e w' => e = .returned (.int .i64 (chk n d)) ∧ Below w.heap.size w w' := by
  go_enter Tryz.func73, Tryz.ntmps73
  go_wp2_with (go_at_call 120; refine (gcd_any _ _ _ (by omega) (by omega) (by omega) (by omega)).mono ?_; rintro e w1 ⟨rfl, hb1⟩)
  · go_ret
    exact ⟨ret_int (chk3 (by omega)).symm, (Below.refl _ _).alloc (Nat.le_refl _) _⟩
  · go_ret
    exact ⟨ret_int (by rw [chk_in (by omega), if_pos ‹_›]), ((Below.refl _ _).alloc (Nat.le_refl _) _).trans (hb1.mono (by simp))⟩
  · go_ret
    exact ⟨ret_int (by rw [chk_in (by omega), if_neg (by omega)]), ((Below.refl _ _).alloc (Nat.le_refl _) _).trans (hb1.mono (by simp))⟩
  all_goals
    go_ret
    exact ⟨ret_int (chk3 (by omega)).symm, (Below.refl _ _).alloc (Nat.le_refl _) _⟩
end Go.Proofs.YtcgedpfolloinaaGreat

namespace Go.Proofs.YtcgedpfolloinaaGreat
open Go.RowKit

abbrev letterB (c : UInt8) : Bool := decide (97 ≤ c.toNat ∧ c.toNat ≤ 122)
abbrev digitB (c : UInt8) : Bool := decide (48 ≤ c.toNat ∧ c.toNat ≤ 57)
/-- byte i of a name. -/
def nameAt (l : List UInt8) (i : Nat) : Bool := letterB (l.getD i 0) || (decide (i ≠ 0) && digitB (l.getD i 0))
def namedB (l : List UInt8) : Bool := (List.range l.length).all (nameAt l) && decide (1 ≤ l.length ∧ l.length ≤ 8)
abbrev printB (c : UInt8) : Bool := decide (32 ≤ c.toNat ∧ c.toNat ≤ 126)
def printableB (l : List UInt8) (most : Int) : Bool := l.all printB && decide ((l.length : Int) ≤ most)

/-- no greater, as bytes. -/
def leB (a b : List UInt8) : Bool := Op.bytesLess a b || a == b

/-- the error of attributes; before: the name of the one before. -/
def attrsErr (before : List UInt8) : List (List UInt8 × List UInt8) → Int
  | [] => 0
  | (n, v) :: r => if namedB n = false then 2 else if leB n before = true then 7 else if printableB v 12 = false then 3 else attrsErr n r

/-- something that the kind does not have. -/
def strayB (h : Hd) : Bool :=
  if h.k = 0 then !(decide (h.n = 0 ∧ h.d = 0)) || !(decide (h.x = []))
  else if h.k = 1 then !(decide (h.x = [])) || (!(decide (h.l = [])) || !(decide (h.ats = [])))
  else if h.k = 2 then !(decide (h.n = 0 ∧ h.d = 0)) || (!(decide (h.l = [])) || !(decide (h.ats = [])))
  else true

def elemErr (h : Hd) : Int := if namedB h.l = false then 2 else if 3 < h.ats.length then 4 else attrsErr [] h.ats
/-- the error of a head. -/
def headErr (h : Hd) : Int :=
  if strayB h = true then 1 else if h.k = 1 then chk h.n h.d else if h.k = 2 then (if printableB h.x 24 = true then 0 else 3) else elemErr h

/-- the error of the heads of a forest. -/
def headsErr : Fo → Int
  | .nil => 0
  | .cons h ks r => if headErr h ≠ 0 then headErr h else if h.k ≠ 0 ∧ ks.len ≠ 0 then 1 else if headsErr ks ≠ 0 then headsErr ks else headsErr r
def foErr (f : Fo) : Int := if 400 < f.size then 4 else if 40 < f.deep then 8 else headsErr f

/-- what the statements look at. -/
def greatAt (l : List (List UInt8 × List UInt8)) (i : Nat) : Bool := decide (9 < i) || (decide (60 < (l.getD i ([], [])).1.length) || decide (60 < (l.getD i ([], [])).2.length))
def greatHead (h : Hd) : Bool := (List.range h.ats.length).any (greatAt h.ats) || (decide (60 < h.l.length) || decide (60 < h.x.length))

end Go.Proofs.YtcgedpfolloinaaGreat

namespace Go.Proofs.YtcgedpfolloinaaGreat
open Go.RowKit

theorem wrap64_add_wrap (a b : Int) : wrap64 (wrap64 a + wrap64 b) = wrap64 (a + b) := by
  unfold wrap64; omega
theorem wrap64_id {x : Int} (h1 : -9223372036854775808 ≤ x) (h2 : x ≤ 9223372036854775807) : wrap64 x = x := by unfold wrap64; omega
theorem ret_int' {a b : Int} (h : a = b) : Ending.returned (.int .i64 a) = .returned (.int .i64 b) := by rw [h]
theorem int_val {k : IntKind} {a b : Int} (h : a = b) : Value.int k a = Value.int k b := by rw [h]

/-- sizes of the first trees. -/
theorem size_take_succ {f : Fo} {i : Nat} {h : Hd} {ks r : Fo} (e : f.drop i = .cons h ks r) : (f.take (i + 1)).size = (f.take i).size + ks.size + 1 := by
  rw [Fo.take_succ i f e, Fo.size_app]; simp [Fo.size]; omega

set_option maxHeartbeats 1000000 in
theorem sizeOf_any (m : Nat) : ∀ (f : Fo) (v : Value) (w : World), f.size ≤ m → Lies w v f →
    Calls Tryz.prog 69 #[v] w fun e w' => e = .returned (.int .i64 (wrap64 f.size)) ∧ w = w' := by
  induction m with
  | zero =>
    intro f v w hm hl
    obtain rfl : f = .nil := Fo.len_nil (by have := Fo.len_le_size f; omega)
    obtain ⟨a, cap, rfl⟩ := lies_form hl
    clear hl
    go_enter Tryz.func69, Tryz.ntmps69
    go_wp2_with fail
    go_loop [3, 4] (fun n i => n = .int .i64 0 ∧ i = .int .i64 0) (fun _ _ => 0)
    case atStart => exact ⟨rfl, rfl⟩
    case round =>
      obtain ⟨rfl, rfl⟩ := hrel
      go_wp2_with fail
      go_ret
      exact ⟨ret_int' (by show (0 : Int) = wrap64 0; rw [wrap64_id (by omega) (by omega)]), rfl⟩
  | succ m ih =>
    intro f v w hm hl
    have hlen := lies_len hl
    rcases Nat.eq_zero_or_pos f.len with h0 | h0
    · obtain rfl := Fo.len_nil h0
      obtain ⟨a, cap, rfl⟩ := lies_form hl
      clear hl
      go_enter Tryz.func69, Tryz.ntmps69
      go_wp2_with fail
      go_loop [3, 4] (fun n i => n = .int .i64 0 ∧ i = .int .i64 0) (fun _ _ => 0)
      case atStart => exact ⟨rfl, rfl⟩
      case round =>
        obtain ⟨rfl, rfl⟩ := hrel
        go_wp2_with fail
        go_ret
        exact ⟨ret_int' (by show (0 : Int) = wrap64 0; rw [wrap64_id (by omega) (by omega)]), rfl⟩
    · obtain ⟨b, o, cap, rfl, hcap, -, hb, hrow⟩ := lies_row hl h0
      have HR := Lib.hid hrow
      have IH := Lib.hid ih
      clear hl hrow ih
      go_enter Tryz.func69, Tryz.ntmps69
      go_wp2_with fail
      go_loop [3, 4] (fun n i => ∃ k : Nat, k ≤ f.len ∧ i = .int .i64 k ∧ n = .int .i64 (wrap64 ((f.len - k : Nat) + (f.take k).size : Int))) (fun _ i => f.len - (intOf i).toNat)
      case atStart => exact ⟨0, Nat.zero_le _, rfl, int_val (by simp [Fo.take, Fo.size]; unfold wrap64; omega)⟩
      case round =>
        obtain ⟨k, hk, rfl, rfl⟩ := hrel
        by_cases hlt : k < f.len
        · obtain ⟨hd, ks, e, -, vk, hc, hlk⟩ := row_get HR.out hlt
          have HS := Lib.hid (size_take_succ e)
          have hks : ks.size ≤ m := by
            have h1 := Fo.take_app_drop k f
            have h2 := congrArg Fo.size h1
            rw [Fo.size_app, e] at h2
            simp only [Fo.size] at h2
            omega
          have HC := Lib.hid (IH.out ks vk w hks hlk)
          clear e hlk
          go_wp2_with (go_at_call 69; refine HC.out.mono ?_; rintro e w' ⟨rfl, rfl⟩)
          go_round
          case rel => exact ⟨k + 1, by omega, by go_num, int_val (by rw [wrap64_add_wrap, HS.out]; congr 1; omega)⟩
          case measure => simp [intOf]; omega
        · obtain rfl : k = f.len := by omega
          go_wp2_with fail
          go_ret
          exact ⟨ret_int' (by rw [Fo.take_len]), rfl⟩

/-- the depth as the reference reckons it. -/
def deepL (n : Int) : Fo → Int
  | .nil => n
  | .cons _ ks r => deepL (max n (wrap64 (1 + deepL 0 ks))) r

theorem deepL_take_succ {f : Fo} : ∀ {i : Nat} {h : Hd} {ks r : Fo} (n : Int), f.drop i = .cons h ks r → deepL n (f.take (i + 1)) = max (deepL n (f.take i)) (wrap64 (1 + deepL 0 ks)) := by
  induction f with
  | nil => intro i h ks r n e; rw [Fo.drop_nil] at e; cases e
  | cons h0 k0 r0 _ ih =>
    intro i h ks r n e
    cases i with
    | zero => simp only [Fo.drop, Fo.cons.injEq] at e; obtain ⟨rfl, rfl, rfl⟩ := e; simp [Fo.take, deepL]
    | succ i => simp only [Fo.drop] at e; simp only [Fo.take, deepL]; exact ih _ e

set_option maxHeartbeats 1000000 in
theorem deepOf_any (m : Nat) : ∀ (f : Fo) (v : Value) (w : World), f.size ≤ m → Lies w v f →
    Calls Tryz.prog 70 #[v] w fun e w' => e = .returned (.int .i64 (deepL 0 f)) ∧ w = w' := by
  induction m with
  | zero =>
    intro f v w hm hl
    obtain rfl : f = .nil := Fo.len_nil (by have := Fo.len_le_size f; omega)
    obtain ⟨a, cap, rfl⟩ := lies_form hl
    clear hl
    go_enter Tryz.func70, Tryz.ntmps70
    go_wp2_with fail
    go_loop [3, 4] (fun n i => n = .int .i64 0 ∧ i = .int .i64 0) (fun _ _ => 0)
    case atStart => exact ⟨rfl, rfl⟩
    case round =>
      obtain ⟨rfl, rfl⟩ := hrel
      go_wp2_with fail
      go_ret
      exact ⟨rfl, rfl⟩
  | succ m ih =>
    intro f v w hm hl
    have hlen := lies_len hl
    rcases Nat.eq_zero_or_pos f.len with h0 | h0
    · obtain rfl := Fo.len_nil h0
      obtain ⟨a, cap, rfl⟩ := lies_form hl
      clear hl
      go_enter Tryz.func70, Tryz.ntmps70
      go_wp2_with fail
      go_loop [3, 4] (fun n i => n = .int .i64 0 ∧ i = .int .i64 0) (fun _ _ => 0)
      case atStart => exact ⟨rfl, rfl⟩
      case round =>
        obtain ⟨rfl, rfl⟩ := hrel
        go_wp2_with fail
        go_ret
        exact ⟨rfl, rfl⟩
    · obtain ⟨b, o, cap, rfl, hcap, -, hb, hrow⟩ := lies_row hl h0
      have HR := Lib.hid hrow
      have IH := Lib.hid ih
      clear hl hrow ih
      go_enter Tryz.func70, Tryz.ntmps70
      go_wp2_with fail
      go_loop [3, 4] (fun n i => ∃ k : Nat, k ≤ f.len ∧ i = .int .i64 k ∧ n = .int .i64 (deepL 0 (f.take k))) (fun _ i => f.len - (intOf i).toNat)
      case atStart => exact ⟨0, Nat.zero_le _, rfl, rfl⟩
      case round =>
        obtain ⟨k, hk, rfl, rfl⟩ := hrel
        by_cases hlt : k < f.len
        · obtain ⟨hd, ks, e, -, vk, hc, hlk⟩ := row_get HR.out hlt
          have HS := Lib.hid (deepL_take_succ 0 e)
          have hks : ks.size ≤ m := by
            have h1 := Fo.take_app_drop k f
            have h2 := congrArg Fo.size h1
            rw [Fo.size_app, e] at h2
            simp only [Fo.size] at h2
            omega
          have HC := Lib.hid (IH.out ks vk w hks hlk)
          clear e hlk
          go_wp2_with (go_at_call 70; refine HC.out.mono ?_; rintro e w' ⟨rfl, rfl⟩)
          go_round
          case rel => exact ⟨k + 1, by omega, by go_num, int_val (by rw [HS.out]; split <;> omega)⟩
          case measure => simp [intOf]; omega
        · obtain rfl : k = f.len := by omega
          go_wp2_with fail
          go_ret
          exact ⟨ret_int' (by rw [Fo.take_len]), rfl⟩

theorem any_range_hit {p : Nat → Bool} {n k : Nat} (hk : k < n) (h : p k = true) : (List.range n).any p = true := by
  simp only [List.any_eq_true, List.mem_range]; exact ⟨k, hk, h⟩
theorem any_range_none {p : Nat → Bool} {n : Nat} (h : ∀ j, j < n → p j = false) : (List.range n).any p = false := by
  simp only [List.any_eq_false, List.mem_range]; intro j hj; simp [h j hj]

set_option maxHeartbeats 1000000 in
theorem greatHead_any (h : Hd) (va : Value) (w : World) (ha : AttrsLie w va h.ats) :
    Calls Tryz.prog 14 #[.agg #[.int .i64 h.k, .string ⟨h.l.toArray⟩, va, .int .i64 h.n, .int .i64 h.d, .string ⟨h.x.toArray⟩]] w fun e w' => e = .returned (.bool (greatHead h)) ∧ Below w.heap.size w w' := by
  obtain ⟨k, l, ats, n, d, x⟩ := h
  simp only at ha ⊢
  have HEnd : ∀ j, j = ats.length → (∀ i, i < j → greatAt ats i = false) → greatHead ⟨k, l, ats, n, d, x⟩ = (decide (60 < l.length) || decide (60 < x.length)) := by
    rintro j rfl hj
    unfold greatHead; simp only [any_range_none hj, Bool.false_or]
  have HHit : ∀ j, j < ats.length → greatAt ats j = true → greatHead ⟨k, l, ats, n, d, x⟩ = true := by
    intro j hj h1
    unfold greatHead; simp only [any_range_hit hj h1, Bool.true_or]
  have HE := Lib.hid HEnd
  have HH := Lib.hid HHit
  clear HEnd HHit
  obtain ⟨a0, cap0, rfl⟩ := attrs_form ha
  have HA := Lib.hid ha
  clear ha
  go_enter Tryz.func14, Tryz.ntmps14
  go_wp2_with fail
  go_loop [3] (fun i => ∃ j : Nat, i = .int .i64 j ∧ j ≤ ats.length ∧ ∀ q, q < j → greatAt ats q = false) (fun i => ats.length - (intOf i).toNat)
  case atStart => exact ⟨0, rfl, Nat.zero_le _, fun q hq => absurd hq (by omega)⟩
  case round =>
    obtain ⟨j, rfl, hj, hq⟩ := hrel
    have HQ := Lib.hid hq
    clear hq
    by_cases hlt : j < ats.length
    · obtain ⟨b, off, cap, hs, hcap, hlim, hb, hc⟩ := attrs_row HA.out (by omega)
      obtain ⟨c1, c2⟩ := hc j hlt
      have HG := Lib.hid (show greatAt ats j = (decide (9 < j) || (decide (60 < (ats.getD j ([], [])).1.length) || decide (60 < (ats.getD j ([], [])).2.length))) from rfl)
      simp only [Value.slice.injEq] at hs
      obtain ⟨rfl, -, rfl⟩ := hs
      clear hc
      generalize (ats.getD j ([], [])).1 = s1 at *
      generalize (ats.getD j ([], [])).2 = s2 at *
      by_cases h9 : 9 < j
      · have HT := Lib.hid (HH.out j hlt (by rw [HG.out]; simp [h9]))
        go_wp2_with fail
        go_ret
        exact ⟨ret_bool HT.out.symm, (Below.refl _ _).alloc (Nat.le_refl _) _⟩
      · by_cases h1 : 60 < s1.length
        · have HT := Lib.hid (HH.out j hlt (by rw [HG.out]; simp [h1]))
          go_wp2_with fail
          go_ret
          exact ⟨ret_bool HT.out.symm, (Below.refl _ _).alloc (Nat.le_refl _) _⟩
        · by_cases h2 : 60 < s2.length
          · have HT := Lib.hid (HH.out j hlt (by rw [HG.out]; simp [h2]))
            go_wp2_with fail
            go_ret
            exact ⟨ret_bool HT.out.symm, (Below.refl _ _).alloc (Nat.le_refl _) _⟩
          · have HN := Lib.hid (show greatAt ats j = false by rw [HG.out]; simp [h9, h1, h2])
            go_wp2_with fail
            go_round
            case rel => exact ⟨j + 1, by go_num, by omega, fun q hq => (Nat.lt_or_ge q j).elim (HQ.out q) fun h => by rw [show q = j by omega]; exact HN.out⟩
            case measure => simp [intOf]; omega
    · have HT := Lib.hid (HE.out j (by omega) HQ.out)
      by_cases h1 : 60 < l.length
      · go_wp2_with fail
        go_ret
        exact ⟨ret_bool (by rw [HT.out]; simp; omega), (Below.refl _ _).alloc (Nat.le_refl _) _⟩
      · by_cases h2 : 60 < x.length
        · go_wp2_with fail
          go_ret
          exact ⟨ret_bool (by rw [HT.out]; simp [h2]; omega), (Below.refl _ _).alloc (Nat.le_refl _) _⟩
        · go_wp2_with fail
          go_ret
          exact ⟨ret_bool (by rw [HT.out]; simp [h1, h2]; omega), (Below.refl _ _).alloc (Nat.le_refl _) _⟩
end Go.Proofs.YtcgedpfolloinaaGreat

namespace Go.Proofs.YtcgedpfolloinaaGreat
open Go.RowKit

/-- whether some tree of the list is great, or its kids are. -/
def greatKids : Fo → Bool
  | .nil => false
  | .cons h ks r => (greatHead h || (decide (600 < wrap64 (ks.size : Int)) || (decide (60 < deepL 0 ks) || greatKids ks))) || greatKids r
def great (f : Fo) : Bool := decide (600 < wrap64 (f.size : Int)) || (decide (60 < deepL 0 f) || greatKids f)
/-- no list is too long for an address. -/
def bnd : Fo → Prop
  | .nil => True
  | .cons _ ks r => ks.len ≤ 2000000000000 ∧ bnd ks ∧ bnd r

theorem bnd_row {w : World} : ∀ (f : Fo) (b o : Nat), RowAt w f b o → bnd f
  | .nil, _, _, _ => trivial
  | .cons h ks r, b, o, H => by
    obtain ⟨_, ⟨v, _, h3⟩, h4⟩ := H
    rcases h3 with ⟨_, _, _, rfl⟩ | ⟨b', o', cap, _, _, e0, _, e2⟩
    · exact ⟨by simp [Fo.len], trivial, bnd_row r _ _ h4⟩
    · exact ⟨e0, bnd_row ks b' o' e2, bnd_row r _ _ h4⟩
theorem bnd_lies {w : World} {v : Value} {f : Fo} (h : Lies w v f) : bnd f := by
  rcases h with ⟨a, cap, rfl, rfl⟩ | ⟨b, o, cap, rfl, _, _, _, h⟩
  · trivial
  · exact bnd_row f b o h

theorem great_sizes : ∀ f : Fo, bnd f → greatKids f = false → f.size ≤ f.len * 601 ∧ (f.size ≤ 600 → deepL 0 f ≤ 60 → (f.deep : Int) = deepL 0 f) := by
  intro f
  suffices H : ∀ f : Fo, bnd f → greatKids f = false → f.size ≤ f.len * 601 ∧ ∀ n : Int, 0 ≤ n → deepL n f = max n f.deep from fun hb hg =>
    ⟨(H f hb hg).1, fun _ _ => by rw [(H f hb hg).2 0 (by omega)]; omega⟩
  intro f
  induction f with
  | nil => intro _ _; exact ⟨by simp [Fo.size], fun n hn => by simp [deepL, Fo.deep]; omega⟩
  | cons h ks r ihk ihr =>
    intro hb hg
    obtain ⟨hl, hbk, hbr⟩ := hb
    unfold greatKids at hg
    simp only [Bool.or_eq_false_iff, decide_eq_false_iff_not] at hg
    obtain ⟨⟨_, g1, g2, g3⟩, g4⟩ := hg
    obtain ⟨k1, k2⟩ := ihk hbk g3
    obtain ⟨r1, r2⟩ := ihr hbr g4
    have hs : ks.size ≤ 600 := by
      rw [wrap64_id (by omega) (by omega)] at g1
      omega
    refine ⟨by simp only [Fo.size, Fo.len]; omega, fun n hn => ?_⟩
    have hd := Fo.deep_le_size ks
    simp only [deepL, Fo.deep]
    rw [k2 0 (by omega), show max (0 : Int) (ks.deep : Int) = ks.deep by omega, wrap64_id (by omega) (by omega), r2 _ (by omega)]
    omega
/-- what is not great is small. -/
theorem small_of {f : Fo} (hl : f.len ≤ 2000000000000) (hb : bnd f) (hg : great f = false) : f.size ≤ 600 ∧ f.deep ≤ 60 ∧ deepL 0 f = f.deep := by
  unfold great at hg
  simp only [Bool.or_eq_false_iff, decide_eq_false_iff_not] at hg
  obtain ⟨g1, g2, g3⟩ := hg
  obtain ⟨s1, s2⟩ := great_sizes f hb g3
  rw [wrap64_id (by omega) (by omega)] at g1
  have := s2 (by omega) (by omega)
  omega

theorem greatKids_take {f : Fo} : ∀ {i : Nat} {h : Hd} {ks r : Fo}, f.drop i = .cons h ks r → greatKids (f.take (i + 1)) = (greatKids (f.take i) || (greatHead h || great ks)) := by
  induction f with
  | nil => intro i h ks r e; rw [Fo.drop_nil] at e; cases e
  | cons h0 k0 r0 _ ih =>
    intro i h ks r e
    cases i with
    | zero => simp only [Fo.drop, Fo.cons.injEq] at e; obtain ⟨rfl, rfl, rfl⟩ := e; simp [Fo.take, greatKids, great]
    | succ i => simp only [Fo.drop] at e; simp only [Fo.take, greatKids]; rw [ih e]; simp [Bool.or_assoc]
theorem greatKids_hit {f : Fo} {i : Nat} {h : Hd} {ks r : Fo} (e : f.drop i = .cons h ks r) (hg : greatHead h = true ∨ great ks = true) : greatKids f = true := by
  have h1 := greatKids_take e
  have h2 : ∀ (i : Nat) (f : Fo), greatKids (f.take i) = true → greatKids f = true := by
    intro i
    induction i with
    | zero => intro f hh; simp [Fo.take, greatKids] at hh
    | succ i ih =>
      intro f hh
      cases f with
      | nil => simp [Fo.take, greatKids] at hh
      | cons h0 k0 r0 =>
        simp only [Fo.take, greatKids, Bool.or_eq_true] at hh ⊢
        rcases hh with hh | hh
        · exact .inl hh
        · exact .inr (ih r0 hh)
  refine h2 (i + 1) f ?_
  rw [h1]
  rcases hg with hg | hg <;> simp [hg]

theorem kid_size {f : Fo} {k : Nat} {hd : Hd} {ks : Fo} (e : f.drop k = .cons hd ks (f.drop (k + 1))) : ks.size + (f.take k).size + (f.drop (k + 1)).size + 1 = f.size := by
  have h2 := congrArg Fo.size (Fo.take_app_drop k f)
  rw [Fo.size_app, e] at h2
  simp only [Fo.size] at h2
  omega

theorem great_go {f : Fo} (h1 : ¬ 600 < wrap64 (f.size : Int)) (h2 : ¬ 60 < deepL 0 f) : great f = greatKids f := by
  unfold great; simp [h1, h2]
theorem great_top {f : Fo} (h : 600 < wrap64 (f.size : Int) ∨ 60 < deepL 0 f) : great f = true := by
  unfold great; rcases h with h | h <;> simp [h]

set_option maxRecDepth 100000 in
set_option maxHeartbeats 2000000 in
theorem great_any (m : Nat) : ∀ (f : Fo) (v : Value) (w : World), f.size ≤ m → Lies w v f →
    Calls Tryz.prog 15 #[v] w fun e w' => e = .returned (.bool (great f)) ∧ Below w.heap.size w w' := by
  induction m using Nat.strongRecOn with
  | ind m ih =>
    intro f v w hm hl
    have S1 := Lib.hid (sizeOf_any m f v w hm hl)
    have D1 := Lib.hid (deepOf_any m f v w hm hl)
    have HL := Lib.hid hl
    have IH := Lib.hid ih
    have hlen := lies_len hl
    obtain ⟨a, cap, rfl⟩ := lies_form hl
    have HT := Lib.hid (great_top (f := f))
    have HG := Lib.hid (great_go (f := f))
    clear hl ih
    generalize wrap64 (f.size : Int) = sz at *
    generalize deepL 0 f = dp at *
    by_cases h1 : 600 < sz
    · have d1 : decide (600 < sz) = true := by simpa using h1
      go_enter Tryz.func15, Tryz.ntmps15
      go_wp2_with fail
      refine S1.out.mono ?_; rintro e w' ⟨rfl, rfl⟩
      go_wp2_with fail
      go_ret
      exact ⟨ret_bool (HT.out (.inl h1)).symm, Below.refl _ _⟩
    · have d1 : decide (600 < sz) = false := by simpa using h1
      by_cases h2 : 60 < dp
      · have d2 : decide (60 < dp) = true := by simpa using h2
        go_enter Tryz.func15, Tryz.ntmps15
        go_wp2_with fail
        refine S1.out.mono ?_; rintro e w' ⟨rfl, rfl⟩
        go_wp2_with fail
        refine D1.out.mono ?_; rintro e w' ⟨rfl, rfl⟩
        go_wp2_with fail
        go_ret
        exact ⟨ret_bool (HT.out (.inr h2)).symm, Below.refl _ _⟩
      · have HK := Lib.hid (HG.out h1 h2)
        have d2 : decide (60 < dp) = false := by simpa using h2
        clear HG HT
        go_enter Tryz.func15, Tryz.ntmps15
        go_wp2_with fail
        refine S1.out.mono ?_; rintro e w' ⟨rfl, rfl⟩
        go_wp2_with fail
        refine D1.out.mono ?_; rintro e w' ⟨rfl, rfl⟩
        go_wp2_with fail
        clear S1 D1 d1 d2
        go_loopw [3] (fun i wr => ∃ k : Nat, i = .int .i64 k ∧ k ≤ f.len ∧ greatKids (f.take k) = false ∧ Below w.heap.size w wr) (fun i _ => f.len - (intOf i).toNat)
        case atStart => exact ⟨0, rfl, Nat.zero_le _, rfl, Below.refl _ _⟩
        case round =>
          obtain ⟨k, rfl, hk, hg, hbw⟩ := hrel
          have HN := Lib.hid hg
          clear hg
          by_cases hlt : k < f.len
          · obtain ⟨b, o, cap', hs, hcap, -, hb, hrow⟩ := lies_row HL.out (by omega)
            simp only [Value.slice.injEq] at hs
            obtain ⟨rfl, -, rfl⟩ := hs
            obtain ⟨hd, ks, e, hh, vk, c6, hlk⟩ := row_get hrow hlt
            obtain ⟨hcw, hfw⟩ := bcell hbw
            have hbr := Nat.lt_of_lt_of_le hb hbw.size
            obtain ⟨c0, c1, ⟨va, c2, ha⟩, c3, c4, c5⟩ := hdAt_below hb hbw hh
            have c6' := (hcw b (o + k * 7 + 6) hb).trans c6
            have GH := Lib.hid (fun w1 (hb1 : Below wr.heap.size wr w1) => greatHead_any hd va wr ha)
            have GH := Lib.hid (greatHead_any hd va wr ha)
            have hks := kid_size e
            have GK := Lib.hid (fun w1 (hb1 : Below wr.heap.size wr w1) => IH.out ks.size (by omega) ks vk w1 (Nat.le_refl _) (lies_below (lies_below hlk hbw) hb1))
            have HT := Lib.hid (greatKids_take e)
            have HH := Lib.hid (greatKids_hit e)
            clear e hrow hh c6 hlk hcw hfw ha
            cases hgh : greatHead hd with
            | true =>
              as_aux_lemma =>
                rw [hgh] at GH
                have HX := Lib.hid (HH.out (.inl hgh))
                clear hgh
                go_wp2_with fail
                refine (GH.out).mono ?_; rintro e w1 ⟨rfl, hb1⟩; obtain ⟨hc1, hf1⟩ := bcell hb1; have hs1 := hb1.size; (try simp at hs1); (try have hz10 : w.heap.size < w1.heap.size := by omega); (try have hz11 : w.heap.size + 1 < w1.heap.size := by omega); (try have hz12 : w.heap.size + 1 + 1 < w1.heap.size := by omega); (try have hz13 : w.heap.size + 1 + 1 + 1 < w1.heap.size := by omega); (try have hz14 : w.heap.size + 1 + 1 + 1 + 1 < w1.heap.size := by omega); (try have hz15 : w.heap.size + 1 + 1 + 1 + 1 + 1 < w1.heap.size := by omega)
                go_wp2_with fail
                go_ret
                exact ⟨ret_bool (by rw [HK.out, HX.out]), hbw.trans (hb1.mono hbw.size)⟩
            | false =>
              rw [hgh] at GH
              cases hgk : great ks with
              | true =>
                as_aux_lemma =>
                  have HX := Lib.hid (HH.out (.inr hgk))
                  rw [hgk] at GK
                  clear hgh hgk
                  go_wp2_with fail
                  refine (GH.out).mono ?_; rintro e w1 ⟨rfl, hb1⟩; obtain ⟨hc1, hf1⟩ := bcell hb1; have hs1 := hb1.size; (try simp at hs1); (try have hz10 : w.heap.size < w1.heap.size := by omega); (try have hz11 : w.heap.size + 1 < w1.heap.size := by omega); (try have hz12 : w.heap.size + 1 + 1 < w1.heap.size := by omega); (try have hz13 : w.heap.size + 1 + 1 + 1 < w1.heap.size := by omega); (try have hz14 : w.heap.size + 1 + 1 + 1 + 1 < w1.heap.size := by omega); (try have hz15 : w.heap.size + 1 + 1 + 1 + 1 + 1 < w1.heap.size := by omega)
                  go_wp2_with fail
                  refine (GK.out _ hb1).mono ?_; rintro e w2 ⟨rfl, hb2⟩; obtain ⟨hc2, hf2⟩ := bcell hb2; have hs2 := hb2.size; (try simp at hs2); (try have hz20 : w.heap.size < w2.heap.size := by omega); (try have hz21 : w.heap.size + 1 < w2.heap.size := by omega); (try have hz22 : w.heap.size + 1 + 1 < w2.heap.size := by omega); (try have hz23 : w.heap.size + 1 + 1 + 1 < w2.heap.size := by omega); (try have hz24 : w.heap.size + 1 + 1 + 1 + 1 < w2.heap.size := by omega); (try have hz25 : w.heap.size + 1 + 1 + 1 + 1 + 1 < w2.heap.size := by omega); (try have hy1_2 : w1.heap.size < w2.heap.size := by omega)
                  go_wp2_with fail
                  go_ret
                  exact ⟨ret_bool (by rw [HK.out, HX.out]), (hbw.trans (hb1.mono hbw.size)).trans (hb2.mono (Nat.le_trans hbw.size hb1.size))⟩
              | false =>
                as_aux_lemma =>
                  have HX := Lib.hid (show greatKids (f.take (k + 1)) = false by rw [HT.out, HN.out, hgh, hgk]; rfl)
                  rw [hgk] at GK
                  clear hgh hgk
                  go_wp2_with fail
                  refine (GH.out).mono ?_; rintro e w1 ⟨rfl, hb1⟩; obtain ⟨hc1, hf1⟩ := bcell hb1; have hs1 := hb1.size; (try simp at hs1); (try have hz10 : w.heap.size < w1.heap.size := by omega); (try have hz11 : w.heap.size + 1 < w1.heap.size := by omega); (try have hz12 : w.heap.size + 1 + 1 < w1.heap.size := by omega); (try have hz13 : w.heap.size + 1 + 1 + 1 < w1.heap.size := by omega); (try have hz14 : w.heap.size + 1 + 1 + 1 + 1 < w1.heap.size := by omega); (try have hz15 : w.heap.size + 1 + 1 + 1 + 1 + 1 < w1.heap.size := by omega)
                  go_wp2_with fail
                  refine (GK.out _ hb1).mono ?_; rintro e w2 ⟨rfl, hb2⟩; obtain ⟨hc2, hf2⟩ := bcell hb2; have hs2 := hb2.size; (try simp at hs2); (try have hz20 : w.heap.size < w2.heap.size := by omega); (try have hz21 : w.heap.size + 1 < w2.heap.size := by omega); (try have hz22 : w.heap.size + 1 + 1 < w2.heap.size := by omega); (try have hz23 : w.heap.size + 1 + 1 + 1 < w2.heap.size := by omega); (try have hz24 : w.heap.size + 1 + 1 + 1 + 1 < w2.heap.size := by omega); (try have hz25 : w.heap.size + 1 + 1 + 1 + 1 + 1 < w2.heap.size := by omega); (try have hy1_2 : w1.heap.size < w2.heap.size := by omega)
                  go_wp2_with fail
                  go_roundw
                  case rel => exact ⟨k + 1, by go_num, by omega, HX.out, (hbw.trans (hb1.mono hbw.size)).trans (hb2.mono (Nat.le_trans hbw.size hb1.size))⟩
                  case measure => simp [intOf]; omega
          · obtain rfl : k = f.len := by omega
            go_wp2_with fail
            go_ret
            exact ⟨ret_bool (by rw [HK.out, ← HN.out, Fo.take_len]), hbw⟩
end Go.Proofs.YtcgedpfolloinaaGreat

namespace Go.Proofs.YtcgedpfolloinaaGreat
open Go.RowKit

theorem gcdM_pos (n d : Int) (h : ¬ d = 0) : 1 ≤ gcdM n d := by
  unfold gcdM
  have : Int.gcd n d ≠ 0 := by rw [Ne, Int.gcd_eq_zero_iff]; omega
  omega

theorem gcdM_le (n d : Int) (h : ¬ d = 0) : gcdM n d ≤ d.natAbs := by
  unfold gcdM
  have := Int.gcd_le_natAbs_right n h
  omega

theorem tdiv_bd (n g B : Int) (h1 : -B ≤ n) (h2 : n ≤ B) : -B ≤ n.tdiv g ∧ n.tdiv g ≤ B := by
  have h : (n.tdiv g).natAbs ≤ n.natAbs := by rw [Int.natAbs_tdiv]; exact Nat.div_le_self _ _
  omega

def lowD (n d : Int) : Int := (d.natAbs : Int).tdiv (gcdM n d)
def lowN (n d : Int) : Int := (if d < 0 then -n else n).tdiv (gcdM n d)
def lowOk (n d : Int) : Bool := decide (-1000000000 ≤ lowN n d ∧ lowN n d ≤ 1000000000 ∧ lowD n d ≤ 1000000000)


theorem lowN_neg {n d : Int} (h : d < 0) : lowN n d = -n.tdiv (gcdM n d) := by unfold lowN; rw [if_pos h, Int.neg_tdiv]
theorem lowN_pos {n d : Int} (h : ¬ d < 0) : lowN n d = n.tdiv (gcdM n d) := by unfold lowN; rw [if_neg h]
theorem lowD_neg {n d : Int} (h : d < 0) : lowD n d = -d.tdiv (gcdM n d) := by unfold lowD; rw [show (d.natAbs : Int) = -d by omega, Int.neg_tdiv]
theorem lowD_pos {n d : Int} (h : ¬ d < 0) : lowD n d = d.tdiv (gcdM n d) := by unfold lowD; rw [show (d.natAbs : Int) = d by omega]
/-- how a number in lowest terms ends: it, or the panic of what is beyond the bounds. -/
def lowEnd (n d : Int) : Ending := if lowOk n d then .returned (.agg #[.int .i64 (lowN n d), .int .i64 (lowD n d)]) else .panicked [{ v := .iface 231 (.agg #[]), recovered := false }]
theorem lowEnd_ok {n d x y : Int} (hx : x = lowN n d) (hy : y = lowD n d) (h1 : -1000000000 ≤ x) (h2 : x ≤ 1000000000) (h3 : y ≤ 1000000000) : Ending.returned (.agg #[.int .i64 x, .int .i64 y]) = lowEnd n d := by
  subst hx hy; unfold lowEnd; rw [if_pos]; exact decide_eq_true ⟨h1, h2, h3⟩
theorem lowEnd_no {n d : Int} (h : ¬ (-1000000000 ≤ lowN n d ∧ lowN n d ≤ 1000000000 ∧ lowD n d ≤ 1000000000)) : Ending.panicked [{ v := .iface 231 (.agg #[]), recovered := false }] = lowEnd n d := by
  unfold lowEnd; rw [if_neg]; unfold lowOk; simpa using h

set_option maxHeartbeats 400000 in
theorem lowest_any (n d : Int) (w : World) (h1 : -9223372036854775808 < n) (h2 : n ≤ 9223372036854775807)
   (h3 : -9223372036854775808 < d) (h4 : d ≤ 9223372036854775807) (hd : ¬ d = 0) :
    Calls Tryz.prog 219 #[.int .i64 n, .int .i64 d] w fun e w' => e = lowEnd n d ∧ Below w.heap.size w w' := by
  have g1 := gcdM_pos n d hd
  have g2 := gcdM_le n d hd
  have b1 := tdiv_bd n (gcdM n d) 9223372036854775807 (by omega) (by omega)
  have b2 := tdiv_bd d (gcdM n d) 9223372036854775807 (by omega) (by omega)
  have g3 : ¬ gcdM n d = 0 := by omega
  by_cases h : d < 0
  · have c1 := Lib.hid (lowN_neg (n := n) h)
    have c2 := Lib.hid (lowD_neg (n := n) h)
    go_enter Tryz.func219, Tryz.ntmps219
    go_wp2_with (go_at_call 120; refine (gcd_any _ _ _ (by omega) (by omega) (by omega) (by omega)).mono ?_; rintro e w1 ⟨rfl, hb1⟩; obtain ⟨hc1, hf1⟩ := bcell hb1; have hs1 := hb1.size; (try simp at hs1); (try have hz0 : w.heap.size < w1.heap.size := by omega); (try have hz1 : w.heap.size + 1 < w1.heap.size := by omega); (try have hz2 : w.heap.size + 1 + 1 < w1.heap.size := by omega); (try have hz3 : w.heap.size + 1 + 1 + 1 < w1.heap.size := by omega); (try have hz4 : w.heap.size + 1 + 1 + 1 + 1 < w1.heap.size := by omega); (try have hz5 : w.heap.size + 1 + 1 + 1 + 1 + 1 < w1.heap.size := by omega))
    go_quiet (fail)
    go_wp2
    · exact ⟨rfl, lowEnd_no (by rw [c1.out, c2.out]; omega), by ((repeat' (first | exact Below.refl _ _ | assumption | refine Below.setCell ?_ ?_ _ | refine bdrewN ?_ _ | refine Below.drew ?_ | refine Below.alloc ?_ ?_ _ | refine bbehind ?_ (by assumption) ?_)); all_goals first | (simp; done) | (simp; omega) | omega)⟩
    · refine bodyPost_ret (v := .agg #[.int .i64 (-n.tdiv (gcdM n d)), .int .i64 (-d.tdiv (gcdM n d))]) (by simp (maxDischargeDepth := 8) [results, Tryz.results219, go_sem, *]) rfl ?_
      exact ⟨lowEnd_ok c1.out.symm c2.out.symm (by omega) (by omega) (by omega), by ((repeat' (first | exact Below.refl _ _ | assumption | refine Below.setCell ?_ ?_ _ | refine bdrewN ?_ _ | refine Below.drew ?_ | refine Below.alloc ?_ ?_ _ | refine bbehind ?_ (by assumption) ?_)); all_goals first | (simp; done) | (simp; omega) | omega)⟩
    all_goals exact ⟨rfl, lowEnd_no (by rw [c1.out, c2.out]; omega), by ((repeat' (first | exact Below.refl _ _ | assumption | refine Below.setCell ?_ ?_ _ | refine bdrewN ?_ _ | refine Below.drew ?_ | refine Below.alloc ?_ ?_ _ | refine bbehind ?_ (by assumption) ?_)); all_goals first | (simp; done) | (simp; omega) | omega)⟩
  · have c1 := Lib.hid (lowN_pos (n := n) h)
    have c2 := Lib.hid (lowD_pos (n := n) h)
    go_enter Tryz.func219, Tryz.ntmps219
    go_wp2_with (go_at_call 120; refine (gcd_any _ _ _ (by omega) (by omega) (by omega) (by omega)).mono ?_; rintro e w1 ⟨rfl, hb1⟩; obtain ⟨hc1, hf1⟩ := bcell hb1; have hs1 := hb1.size; (try simp at hs1); (try have hz0 : w.heap.size < w1.heap.size := by omega); (try have hz1 : w.heap.size + 1 < w1.heap.size := by omega); (try have hz2 : w.heap.size + 1 + 1 < w1.heap.size := by omega); (try have hz3 : w.heap.size + 1 + 1 + 1 < w1.heap.size := by omega); (try have hz4 : w.heap.size + 1 + 1 + 1 + 1 < w1.heap.size := by omega); (try have hz5 : w.heap.size + 1 + 1 + 1 + 1 + 1 < w1.heap.size := by omega))
    go_quiet (fail)
    go_wp2
    · exact ⟨rfl, lowEnd_no (by rw [c1.out, c2.out]; omega), by ((repeat' (first | exact Below.refl _ _ | assumption | refine Below.setCell ?_ ?_ _ | refine bdrewN ?_ _ | refine Below.drew ?_ | refine Below.alloc ?_ ?_ _ | refine bbehind ?_ (by assumption) ?_)); all_goals first | (simp; done) | (simp; omega) | omega)⟩
    · refine bodyPost_ret (v := .agg #[.int .i64 (n.tdiv (gcdM n d)), .int .i64 (d.tdiv (gcdM n d))]) (by simp (maxDischargeDepth := 8) [results, Tryz.results219, go_sem, *]) rfl ?_
      exact ⟨lowEnd_ok c1.out.symm c2.out.symm (by omega) (by omega) (by omega), by ((repeat' (first | exact Below.refl _ _ | assumption | refine Below.setCell ?_ ?_ _ | refine bdrewN ?_ _ | refine Below.drew ?_ | refine Below.alloc ?_ ?_ _ | refine bbehind ?_ (by assumption) ?_)); all_goals first | (simp; done) | (simp; omega) | omega)⟩
    all_goals exact ⟨rfl, lowEnd_no (by rw [c1.out, c2.out]; omega), by ((repeat' (first | exact Below.refl _ _ | assumption | refine Below.setCell ?_ ?_ _ | refine bdrewN ?_ _ | refine Below.drew ?_ | refine Below.alloc ?_ ?_ _ | refine bbehind ?_ (by assumption) ?_)); all_goals first | (simp; done) | (simp; omega) | omega)⟩

theorem lowEnd_yes {n d : Int} (h : lowOk n d = true) : lowEnd n d = .returned (.agg #[.int .i64 (lowN n d), .int .i64 (lowD n d)]) := if_pos h
theorem lowEnd_not {n d : Int} (h : ¬ lowOk n d = true) : lowEnd n d = .panicked [{ v := .iface 231 (.agg #[]), recovered := false }] := if_neg h

theorem low_yes {P : Program} {f : FuncId} {args : Array Value} {w : World} {n d : Int} (hok : lowOk n d = true) (h : Calls P f args w fun e w' => e = lowEnd n d ∧ Below w.heap.size w w') :
    Calls P f args w fun e w' => e = .returned (.agg #[.int .i64 (lowN n d), .int .i64 (lowD n d)]) ∧ Below w.heap.size w w' :=
  h.mono fun _ _ ⟨he, hb⟩ => ⟨he.trans (lowEnd_yes hok), hb⟩
theorem low_not {P : Program} {f : FuncId} {args : Array Value} {w : World} {n d : Int} (hok : ¬ lowOk n d = true) (h : Calls P f args w fun e w' => e = lowEnd n d ∧ Below w.heap.size w w') :
    Calls P f args w fun e w' => e = .panicked [{ v := .iface 231 (.agg #[]), recovered := false }] ∧ Below w.heap.size w w' :=
  h.mono fun _ _ ⟨he, hb⟩ => ⟨he.trans (lowEnd_not hok), hb⟩

theorem lowest_ok (n d : Int) (w : World) (h1 : -9223372036854775808 < n) (h2 : n ≤ 9223372036854775807)
   (h3 : -9223372036854775808 < d) (h4 : d ≤ 9223372036854775807) (hd : ¬ d = 0) (hok : lowOk n d = true) :
    Calls Tryz.prog 219 #[.int .i64 n, .int .i64 d] w fun e w' => e = .returned (.agg #[.int .i64 (lowN n d), .int .i64 (lowD n d)]) ∧ Below w.heap.size w w' :=
  (lowest_any n d w h1 h2 h3 h4 hd).mono fun _ _ ⟨he, hb⟩ => ⟨he.trans (lowEnd_yes hok), hb⟩
theorem lowest_beyond (n d : Int) (w : World) (h1 : -9223372036854775808 < n) (h2 : n ≤ 9223372036854775807)
   (h3 : -9223372036854775808 < d) (h4 : d ≤ 9223372036854775807) (hd : ¬ d = 0) (hok : ¬ lowOk n d = true) :
    Calls Tryz.prog 219 #[.int .i64 n, .int .i64 d] w fun e w' => e = .panicked [{ v := .iface 231 (.agg #[]), recovered := false }] ∧ Below w.heap.size w w' :=
  (lowest_any n d w h1 h2 h3 h4 hd).mono fun _ _ ⟨he, hb⟩ => ⟨he.trans (lowEnd_not hok), hb⟩
end Go.Proofs.YtcgedpfolloinaaGreat

namespace Go.Proofs.YtcgedpfolloinaaGreat
open Go.RowKit

set_option maxRecDepth 100000 in
/-- the deferred function of 'bounded', where the panic 'beyond' goes through it. -/
theorem catch_beyond (p : Addr) (x : Int) (older : List PanicEntry) (w : World) (hc : w.cell? p = some (.int .i64 x)) (hz : w.frozen? p = false) :
    CallsD Tryz.prog 222 #[.pointer (some p)] (.panicking ({ v := .iface 231 (.agg #[]), recovered := false } :: older)) w fun e u' w' =>
      e = .returned (.tuple #[]) ∧ u' = .panicking ({ v := .iface 231 (.agg #[]), recovered := true } :: older) ∧ w' = w.setCell p (.int .i64 8) := by
  have hta : ∀ w, (Instr.typeAssert (.iface 231 (.agg #[])) 20 231 true).run Tryz.prog w = .ok (.tuple #[.agg #[], .bool true]) w := fun _ => by kernel_rfl
  refine callsD_of_wpS Tryz.func222 rfl fun c₀ cs hu => ?_
  apply wpS_seq
  apply wpS_region
  simp [wpOpsS, go_sem, recoverD, hu, Tryz.ntmps222, Exit.thenS]
  refine wpS_of_wp ?_
  clear hu
  change Code.wp _ _ _ { tmps := #[.pointer (some p), .iface 231 (.agg #[]), undef, undef, undef, undef], defers := [] } _
  go_wp2
  simp [bodyPostS, results, Tryz.results222]

theorem catch_idle (p : Addr) (w : World) :
    CallsD Tryz.prog 222 #[.pointer (some p)] .returning w fun e u' w' => e = .returned (.tuple #[]) ∧ u' = .returning ∧ w' = w := by
  refine callsD_of_wpS Tryz.func222 rfl fun c₀ cs hu => ?_
  apply wpS_seq
  apply wpS_region
  simp [wpOpsS, go_sem, recoverD, hu, Tryz.ntmps222, Exit.thenS]
  refine wpS_of_wp ?_
  go_wp2
  cases c₀
  simp_all [bodyPostS, results, Tryz.results222]

set_option maxRecDepth 100000 in
theorem bounded_ret (k : FuncId) (cap : Array Value) (n d : Int) (w : World) (hk : ∀ w1, (callFunc k cap).run Tryz.prog w1 = .ok (.enter k cap) w1)
    (hf : ∀ w1, Below w.heap.size w w1 → Calls Tryz.prog k cap w1 fun e w' => e = .returned (.agg #[.int .i64 n, .int .i64 d]) ∧ Below w1.heap.size w1 w') :
    Calls Tryz.prog 217 #[.func (.func k) #[] cap] w fun e w' => e = .returned (.tuple #[.agg #[.int .i64 n, .int .i64 d], .int .i64 0]) ∧ Below w.heap.size w w' := by
  have hmf : ∀ (fn : Fn) (first cap : Array Value) (w : World), (Instr.makeFunc fn first cap).run Tryz.prog w = .ok (.func fn first cap) w := fun _ _ _ _ => rfl
  have HF := Lib.hid hf; clear hf
  go_enter_defers Tryz.func217, Tryz.ntmps217
  go_wp2_with fail
  refine (HF.out _ (by ((repeat' (first | exact Below.refl _ _ | assumption | refine Below.setCell ?_ ?_ _ | refine bdrewN ?_ _ | refine Below.drew ?_ | refine Below.alloc ?_ ?_ _ | refine bbehind ?_ (by assumption) ?_)); all_goals first | (simp; done) | (simp; omega) | omega))).mono ?_
  rintro e w1 ⟨rfl, hb1⟩
  obtain ⟨hc1, hf1⟩ := bcell hb1
  have hs1 := hb1.size
  simp at hs1
  go_wp2
  refine leaves_cons (f := 222) (args := #[.pointer (some ⟨w.heap.size + 1, 0, none⟩)]) (by simp) (by simp [go_sem]) ?_
  refine (catch_idle ⟨w.heap.size + 1, 0, none⟩ _).mono ?_
  rintro e u' w'' ⟨rfl, rfl, rfl⟩
  simp (maxDischargeDepth := 8) [Leaves, settle, results, Tryz.results217, go_sem, hc1]
  exact by ((repeat' (first | exact Below.refl _ _ | assumption | refine Below.setCell ?_ ?_ _ | refine bdrewN ?_ _ | refine Below.drew ?_ | refine Below.alloc ?_ ?_ _ | refine bbehind ?_ (by assumption) ?_)); all_goals first | (simp; done) | (simp; omega) | omega)

set_option maxRecDepth 100000 in
theorem bounded_beyond (k : FuncId) (cap : Array Value) (w : World) (hk : ∀ w1, (callFunc k cap).run Tryz.prog w1 = .ok (.enter k cap) w1)
    (hf : ∀ w1, Below w.heap.size w w1 → Calls Tryz.prog k cap w1 fun e w' => e = .panicked [{ v := .iface 231 (.agg #[]), recovered := false }] ∧ Below w1.heap.size w1 w') :
    Calls Tryz.prog 217 #[.func (.func k) #[] cap] w fun e w' => e = .returned (.tuple #[.agg #[.int .i64 0, .int .i64 0], .int .i64 8]) ∧ Below w.heap.size w w' := by
  have hmf : ∀ (fn : Fn) (first cap : Array Value) (w : World), (Instr.makeFunc fn first cap).run Tryz.prog w = .ok (.func fn first cap) w := fun _ _ _ _ => rfl
  have HF := Lib.hid hf; clear hf
  go_enter_defers Tryz.func217, Tryz.ntmps217
  go_wp2_with fail
  refine (HF.out _ (by ((repeat' (first | exact Below.refl _ _ | assumption | refine Below.setCell ?_ ?_ _ | refine bdrewN ?_ _ | refine Below.drew ?_ | refine Below.alloc ?_ ?_ _ | refine bbehind ?_ (by assumption) ?_)); all_goals first | (simp; done) | (simp; omega) | omega))).mono ?_
  rintro e w1 ⟨rfl, hb1⟩
  obtain ⟨hc1, hf1⟩ := bcell hb1
  have hs1 := hb1.size
  simp at hs1
  go_wp2
  refine leaves_cons (f := 222) (args := #[.pointer (some ⟨w.heap.size + 1, 0, none⟩)]) (by simp) (by simp [go_sem]) ?_
  refine (catch_beyond ⟨w.heap.size + 1, 0, none⟩ 0 _ _ ?_ ?_).mono ?_
  · simp [go_sem, hc1]
  · simp [go_sem, hf1]
  rintro e u' w'' ⟨rfl, rfl, rfl⟩
  simp (maxDischargeDepth := 8) [Leaves, settle, results, Tryz.results217, go_sem, hc1]
  exact by ((repeat' (first | exact Below.refl _ _ | assumption | refine Below.setCell ?_ ?_ _ | refine bdrewN ?_ _ | refine Below.drew ?_ | refine Below.alloc ?_ ?_ _ | refine bbehind ?_ (by assumption) ?_)); all_goals first | (simp; done) | (simp; omega) | omega)

end Go.Proofs.YtcgedpfolloinaaGreat

namespace Go.Proofs.YtcgedpfolloinaaGreat
open Go.RowKit Go.BigFrame

theorem mul_bd {a b A B : Int} (h1 : -A ≤ a) (h2 : a ≤ A) (h3 : -B ≤ b) (h4 : b ≤ B) : -(A * B) ≤ a * b ∧ a * b ≤ A * B := by
  have h5 : a.natAbs ≤ A.natAbs := by omega
  have h6 : b.natAbs ≤ B.natAbs := by omega
  have h7 : a.natAbs * b.natAbs ≤ A.natAbs * B.natAbs := Nat.mul_le_mul h5 h6
  have h8 : (a * b).natAbs = a.natAbs * b.natAbs := Int.natAbs_mul a b
  have h9 : (A * B).natAbs = A.natAbs * B.natAbs := Int.natAbs_mul A B
  have h10 : 0 ≤ A * B := Int.mul_nonneg (by omega) (by omega)
  omega
theorem mul_bd9 {a b : Int} (h1 : -1000000000 ≤ a) (h2 : a ≤ 1000000000) (h3 : -1000000000 ≤ b) (h4 : b ≤ 1000000000) : -1000000000000000000 ≤ a * b ∧ a * b ≤ 1000000000000000000 := mul_bd h1 h2 h3 h4
/-- a valid number is within the bounds. -/
structure Fit (n d : Int) : Prop where
  nlo : -1000000000 ≤ n
  nhi : n ≤ 1000000000
  dlo : 1 ≤ d
  dhi : d ≤ 1000000000


end Go.Proofs.YtcgedpfolloinaaGreat

namespace Go.Proofs.YtcgedpfolloinaaGreat
open Go.RowKit Go.BigFrame

/-- the error of the first number that has one. -/
def firstErr : List (Int × Int) → Int
  | [] => 0
  | (n, d) :: r => if chk n d = 0 then firstErr r else chk n d

/-- where a list of numbers lies. -/
def NumsAt (w : World) (b off : Nat) (l : List (Int × Int)) : Prop :=
  ∀ k, k < l.length → w.cell? ⟨b, off + k * 2, none⟩ = some (.int .i64 (l.getD k (0, 0)).1) ∧ w.cell? ⟨b, off + k * 2 + 1, none⟩ = some (.int .i64 (l.getD k (0, 0)).2)

theorem firstErr_step (l : List (Int × Int)) (k : Nat) (h : k < l.length) :
    firstErr (l.drop k) = if chk (l.getD k (0, 0)).1 (l.getD k (0, 0)).2 = 0 then firstErr (l.drop (k + 1)) else chk (l.getD k (0, 0)).1 (l.getD k (0, 0)).2 := by
  rw [List.drop_eq_getElem_cons h]
  simp only [List.getD_eq_getElem?_getD, List.getElem?_eq_getElem h, Option.getD_some]
  rfl

set_option maxHeartbeats 400000 in
theorem firstError_any (b off cap : Nat) (l : List (Int × Int)) (w : World) (hl : l.length ≤ 4611686018427387904) (hb : b < w.heap.size) (hc : NumsAt w b off l) :
    Calls Tryz.prog 118 #[.slice (some ⟨b, off, none⟩) l.length cap] w fun e w' => e = .returned (.int .i64 (firstErr l)) ∧ Below w.heap.size w w' := by
  have HC := Lib.hid hc; clear hc
  go_enter Tryz.func118, Tryz.ntmps118
  go_wp2
  go_loopw [8] (fun i wr => ∃ k : Nat, k ≤ l.length ∧ i = .int .i64 k ∧ firstErr (l.drop k) = firstErr l ∧ Below w.heap.size w wr) (fun i _ => l.length - (intOf i).toNat)
  case atStart => exact ⟨0, Nat.zero_le _, rfl, by simp, Below.refl _ _⟩
  case round =>
    obtain ⟨k, hk, rfl, he, hbw⟩ := hrel
    have HE := Lib.hid he; clear he
    by_cases hlt : k < l.length
    · obtain ⟨c1, c2⟩ := HC.out k hlt
      have d1 : wr.cell? ⟨b, off + k * 2, none⟩ = some (.int .i64 (l.getD k (0, 0)).1) := by rw [hbw.cell (p := ⟨b, _, none⟩) hb]; exact c1
      have d2 : wr.cell? ⟨b, off + k * 2 + 1, none⟩ = some (.int .i64 (l.getD k (0, 0)).2) := by rw [hbw.cell (p := ⟨b, _, none⟩) hb]; exact c2
      have HS := Lib.hid (firstErr_step l k hlt)
      have hsz := hbw.size
      clear c1 c2
      generalize (l.getD k (0, 0)).1 = x at *
      generalize (l.getD k (0, 0)).2 = y at *
      by_cases hx : chk x y = 0
      · have hx' : (chk x y != 0) = false := by simp [hx]
        have HX := Lib.hid hx; clear hx
        go_wp2_with (go_at_call 73; refine (check_any _ _ _).mono ?_; rintro e w1 ⟨rfl, hb1⟩; obtain ⟨hc1, hf1⟩ := bcell hb1; have hs1 := hb1.size; (try simp at hs1); (try have hz0 : w.heap.size < w1.heap.size := by omega); (try have hz1 : w.heap.size + 1 < w1.heap.size := by omega); (try have hz2 : w.heap.size + 1 + 1 < w1.heap.size := by omega); (try have hz3 : w.heap.size + 1 + 1 + 1 < w1.heap.size := by omega); (try have hz4 : w.heap.size + 1 + 1 + 1 + 1 < w1.heap.size := by omega); (try have hz5 : w.heap.size + 1 + 1 + 1 + 1 + 1 < w1.heap.size := by omega))
        go_roundw
        case rel => exact ⟨k + 1, by omega, by go_num, by rw [← HE.out, HS.out, if_pos HX.out], by ((repeat' (first | exact Below.refl _ _ | assumption | refine Below.setCell ?_ ?_ _ | refine bdrewN ?_ _ | refine Below.drew ?_ | refine Below.alloc ?_ ?_ _ | refine bbehind ?_ (by assumption) ?_)); all_goals first | (simp; done) | (simp; omega) | omega)⟩
        case measure => simp [intOf]; omega
      · have hx' : (chk x y != 0) = true := by simpa using hx
        have HX := Lib.hid hx; clear hx
        go_wp2_with (go_at_call 73; refine (check_any _ _ _).mono ?_; rintro e w1 ⟨rfl, hb1⟩; obtain ⟨hc1, hf1⟩ := bcell hb1; have hs1 := hb1.size; (try simp at hs1); (try have hz0 : w.heap.size < w1.heap.size := by omega); (try have hz1 : w.heap.size + 1 < w1.heap.size := by omega); (try have hz2 : w.heap.size + 1 + 1 < w1.heap.size := by omega); (try have hz3 : w.heap.size + 1 + 1 + 1 < w1.heap.size := by omega); (try have hz4 : w.heap.size + 1 + 1 + 1 + 1 < w1.heap.size := by omega); (try have hz5 : w.heap.size + 1 + 1 + 1 + 1 + 1 < w1.heap.size := by omega))
        go_ret
        exact ⟨ret_int (by rw [← HE.out, HS.out, if_neg HX.out]), by ((repeat' (first | exact Below.refl _ _ | assumption | refine Below.setCell ?_ ?_ _ | refine bdrewN ?_ _ | refine Below.drew ?_ | refine Below.alloc ?_ ?_ _ | refine bbehind ?_ (by assumption) ?_)); all_goals first | (simp; done) | (simp; omega) | omega)⟩
    · go_wp2
      go_ret
      exact ⟨ret_int (by rw [← HE.out, List.drop_of_length_le (by omega)]; rfl), hbw⟩

end Go.Proofs.YtcgedpfolloinaaGreat

namespace Go.Proofs.YtcgedpfolloinaaGreat
open Go.RowKit Go.BigFrame

theorem fit_of_chk {n d : Int} (h : chk n d = 0) : Fit n d := by
  unfold chk at h
  split at h
  · cases h
  · constructor <;> omega
theorem gcd_of_chk {n d : Int} (h : chk n d = 0) : gcdM n d = 1 := by
  have hf := fit_of_chk h
  have h1 := gcdM_pos n d (by have := hf.dlo; omega)
  unfold chk at h
  split at h
  · cases h
  · split at h
    · cases h
    · omega

theorem firstErr_two (a b c d : Int) : firstErr [(a, b), (c, d)] = if chk a b = 0 then chk c d else chk a b := by
  unfold firstErr
  split
  · unfold firstErr; split
    · rename_i h; rw [h]; rfl
    · rfl
  · rfl

/-- a number in lowest terms, and its error. -/
def lowT (n d : Int) : Int × Int × Int := if lowOk n d then (lowN n d, lowD n d, 0) else (0, 0, 8)
theorem lowT_yes {n d : Int} (h : lowOk n d = true) : lowT n d = (lowN n d, lowD n d, 0) := if_pos h
theorem lowT_not {n d : Int} (h : ¬ lowOk n d = true) : lowT n d = (0, 0, 8) := if_neg h
theorem numsAt_two {w : World} {b : Nat} {an ad bn bd : Int} (h0 : w.cell? ⟨b, 0, none⟩ = some (.int .i64 an)) (h1 : w.cell? ⟨b, 1, none⟩ = some (.int .i64 ad))
    (h2 : w.cell? ⟨b, 2, none⟩ = some (.int .i64 bn)) (h3 : w.cell? ⟨b, 3, none⟩ = some (.int .i64 bd)) : NumsAt w b 0 [(an, ad), (bn, bd)] := by
  intro k hk
  have : k = 0 ∨ k = 1 := by simp at hk; omega
  rcases this with rfl | rfl
  · exact ⟨h0, h1⟩
  · exact ⟨h2, h3⟩

/-- the two numbers of a call, laid side by side. -/
theorem firstError_two (b : Nat) (an ad bn bd : Int) (w : World) (hb : b < w.heap.size) (h0 : w.cell? ⟨b, 0, none⟩ = some (.int .i64 an)) (h1 : w.cell? ⟨b, 1, none⟩ = some (.int .i64 ad))
    (h2 : w.cell? ⟨b, 2, none⟩ = some (.int .i64 bn)) (h3 : w.cell? ⟨b, 3, none⟩ = some (.int .i64 bd)) :
    Calls Tryz.prog 118 #[.slice (some ⟨b, 0, none⟩) 2 2] w fun e w' => e = .returned (.int .i64 (if chk an ad = 0 then chk bn bd else chk an ad)) ∧ Below w.heap.size w w' := by
  rw [← firstErr_two]
  exact firstError_any b 0 2 [(an, ad), (bn, bd)] w (by simp) hb (numsAt_two h0 h1 h2 h3)


end Go.Proofs.YtcgedpfolloinaaGreat

namespace Go.Proofs.YtcgedpfolloinaaGreat
open Go.RowKit Go.BigFrame

/-- how two whole numbers compare. -/
def cmpM (a b : Int) : Int := if a < b then -1 else if b < a then 1 else 0

set_option maxHeartbeats 400000 in
theorem isNaN_any (n : Int) (w : World) : Calls Tryz.prog 162 #[.int .i64 n] w fun e w' => e = .returned (.bool false) ∧ w = w' := by
  go_enter Tryz.func162, Tryz.ntmps162
  go_wp2
  go_ret
  exact ⟨rfl, rfl⟩

set_option maxHeartbeats 400000 in
theorem compare_any (a b : Int) (w : World) : Calls Tryz.prog 147 #[.int .i64 a, .int .i64 b] w fun e w' => e = .returned (.int .i64 (cmpM a b)) ∧ w = w' := by
  unfold cmpM
  by_cases h1 : a < b
  · rw [if_pos h1]
    go_enter Tryz.func147, Tryz.ntmps147
    go_wp2_with (go_at_call 162; refine (isNaN_any _ _).mono ?_; rintro e w1 ⟨rfl, rfl⟩)
    go_ret
    exact ⟨rfl, rfl⟩
  · rw [if_neg h1]
    by_cases h2 : b < a
    · rw [if_pos h2]
      go_enter Tryz.func147, Tryz.ntmps147
      go_wp2_with (go_at_call 162; refine (isNaN_any _ _).mono ?_; rintro e w1 ⟨rfl, rfl⟩)
      go_ret
      exact ⟨rfl, rfl⟩
    · rw [if_neg h2]
      go_enter Tryz.func147, Tryz.ntmps147
      go_wp2_with (go_at_call 162; refine (isNaN_any _ _).mono ?_; rintro e w1 ⟨rfl, rfl⟩)
      go_ret
      exact ⟨rfl, rfl⟩

set_option maxHeartbeats 400000 in
theorem fcompare_any (an ad bn bd : Int) (w : World) (fa : Fit an ad) (fb : Fit bn bd) :
    Calls Tryz.prog 119 #[.agg #[.int .i64 an, .int .i64 ad], .agg #[.int .i64 bn, .int .i64 bd]] w fun e w' => e = .returned (.int .i64 (cmpM (an * bd) (bn * ad))) ∧ Below w.heap.size w w' := by
  obtain ⟨a1, a2, a3, a4⟩ := fa
  obtain ⟨b1, b2, b3, b4⟩ := fb
  have m1 := mul_bd9 (a := an) (b := bd) (by omega) (by omega) (by omega) (by omega)
  have m2 := mul_bd9 (a := bn) (b := ad) (by omega) (by omega) (by omega) (by omega)
  go_enter Tryz.func119, Tryz.ntmps119
  go_wp2_with (go_at_call 147; refine (compare_any _ _ _).mono ?_; rintro e w1 ⟨rfl, rfl⟩)
  go_ret
  exact ⟨rfl, by ((repeat' (first | exact Below.refl _ _ | assumption | refine Below.setCell ?_ ?_ _ | refine bdrewN ?_ _ | refine Below.drew ?_ | refine Below.alloc ?_ ?_ _ | refine bbehind ?_ (by assumption) ?_)); all_goals first | (simp; done) | (simp; omega) | omega)⟩

def cmpT (an ad bn bd : Int) : Int × Int := if chk an ad = 0 then (if chk bn bd = 0 then (cmpM (an * bd) (bn * ad), 0) else (0, chk bn bd)) else (0, chk an ad)

set_option maxHeartbeats 1600000 in
theorem cmp_any (an ad bn bd : Int) (w : World) :
    Calls Tryz.prog 67 #[.agg #[.int .i64 an, .int .i64 ad], .agg #[.int .i64 bn, .int .i64 bd]] w fun e w' => e = .returned (.tuple #[.int .i64 (cmpT an ad bn bd).1, .int .i64 (cmpT an ad bn bd).2]) ∧ Below w.heap.size w w' := by
  unfold cmpT
  by_cases hA : chk an ad = 0
  · rw [if_pos hA]
    by_cases hB : chk bn bd = 0
    · have fa := fit_of_chk hA
      have fb := fit_of_chk hB
      rw [if_pos hB]
      go_enter Tryz.func67, Tryz.ntmps67
      go_wp2_with (first | (go_at_call 118; refine (firstError_two _ an ad bn bd _ (by simp) (by simp [go_sem]) (by simp [go_sem]) (by simp [go_sem]) (by simp [go_sem])).mono ?_; rintro e w1 ⟨rfl, hb1⟩; obtain ⟨hc1, hf1⟩ := bcell hb1; have hs1 := hb1.size; (try simp at hs1); (try have hz0 : w.heap.size < w1.heap.size := by omega); (try have hz1 : w.heap.size + 1 < w1.heap.size := by omega); (try have hz2 : w.heap.size + 1 + 1 < w1.heap.size := by omega); (try have hz3 : w.heap.size + 1 + 1 + 1 < w1.heap.size := by omega); (try have hz4 : w.heap.size + 1 + 1 + 1 + 1 < w1.heap.size := by omega); (try have hz5 : w.heap.size + 1 + 1 + 1 + 1 + 1 < w1.heap.size := by omega)) | (go_at_call 119; refine (fcompare_any _ _ _ _ _ fa fb).mono ?_; rintro e w1 ⟨rfl, hb1⟩; obtain ⟨hc1, hf1⟩ := bcell hb1; have hs1 := hb1.size; (try simp at hs1); (try have hz0 : w.heap.size < w1.heap.size := by omega); (try have hz1 : w.heap.size + 1 < w1.heap.size := by omega); (try have hz2 : w.heap.size + 1 + 1 < w1.heap.size := by omega); (try have hz3 : w.heap.size + 1 + 1 + 1 < w1.heap.size := by omega); (try have hz4 : w.heap.size + 1 + 1 + 1 + 1 < w1.heap.size := by omega); (try have hz5 : w.heap.size + 1 + 1 + 1 + 1 + 1 < w1.heap.size := by omega)))
      go_ret2
      exact ⟨rfl, by ((repeat' (first | exact Below.refl _ _ | assumption | refine Below.setCell ?_ ?_ _ | refine bdrewN ?_ _ | refine Below.drew ?_ | refine Below.alloc ?_ ?_ _ | refine bbehind ?_ (by assumption) ?_)); all_goals first | (simp; done) | (simp; omega) | omega)⟩
    · have hB' : (chk bn bd != 0) = true := by simpa using hB
      rw [if_neg hB]
      clear hB
      go_enter Tryz.func67, Tryz.ntmps67
      go_wp2_with (go_at_call 118; refine (firstError_two _ an ad bn bd _ (by simp) (by simp [go_sem]) (by simp [go_sem]) (by simp [go_sem]) (by simp [go_sem])).mono ?_; rintro e w1 ⟨rfl, hb1⟩; obtain ⟨hc1, hf1⟩ := bcell hb1; have hs1 := hb1.size; (try simp at hs1); (try have hz0 : w.heap.size < w1.heap.size := by omega); (try have hz1 : w.heap.size + 1 < w1.heap.size := by omega); (try have hz2 : w.heap.size + 1 + 1 < w1.heap.size := by omega); (try have hz3 : w.heap.size + 1 + 1 + 1 < w1.heap.size := by omega); (try have hz4 : w.heap.size + 1 + 1 + 1 + 1 < w1.heap.size := by omega); (try have hz5 : w.heap.size + 1 + 1 + 1 + 1 + 1 < w1.heap.size := by omega))
      go_ret2
      exact ⟨rfl, by ((repeat' (first | exact Below.refl _ _ | assumption | refine Below.setCell ?_ ?_ _ | refine bdrewN ?_ _ | refine Below.drew ?_ | refine Below.alloc ?_ ?_ _ | refine bbehind ?_ (by assumption) ?_)); all_goals first | (simp; done) | (simp; omega) | omega)⟩
  · have hA' : (chk an ad != 0) = true := by simpa using hA
    rw [if_neg hA]
    have HA := Lib.hid hA; clear hA
    go_enter Tryz.func67, Tryz.ntmps67
    go_wp2_with (go_at_call 118; refine (firstError_two _ an ad bn bd _ (by simp) (by simp [go_sem]) (by simp [go_sem]) (by simp [go_sem]) (by simp [go_sem])).mono ?_; rintro e w1 ⟨rfl, hb1⟩; obtain ⟨hc1, hf1⟩ := bcell hb1; have hs1 := hb1.size; (try simp at hs1); (try have hz0 : w.heap.size < w1.heap.size := by omega); (try have hz1 : w.heap.size + 1 < w1.heap.size := by omega); (try have hz2 : w.heap.size + 1 + 1 < w1.heap.size := by omega); (try have hz3 : w.heap.size + 1 + 1 + 1 < w1.heap.size := by omega); (try have hz4 : w.heap.size + 1 + 1 + 1 + 1 < w1.heap.size := by omega); (try have hz5 : w.heap.size + 1 + 1 + 1 + 1 + 1 < w1.heap.size := by omega))
    go_ret2
    exact ⟨rfl, by ((repeat' (first | exact Below.refl _ _ | assumption | refine Below.setCell ?_ ?_ _ | refine bdrewN ?_ _ | refine Below.drew ?_ | refine Below.alloc ?_ ?_ _ | refine bbehind ?_ (by assumption) ?_)); all_goals first | (simp; done) | (simp; omega) | omega)⟩
end Go.Proofs.YtcgedpfolloinaaGreat

namespace Go.Proofs.YtcgedpfolloinaaGreat
open Go.RowKit Go.BigFrame

def inB (n lo hi : Int) : Bool := decide (lo ≤ n ∧ n ≤ hi)
theorem inB_of {n lo hi : Int} (h : inB n lo hi = true) : lo ≤ n ∧ n ≤ hi := of_decide_eq_true h
theorem inB_not {n lo hi : Int} (h : inB n lo hi = false) : ¬ (lo ≤ n ∧ n ≤ hi) := of_decide_eq_false h
theorem inB_yes {n lo hi : Int} (h : lo ≤ n ∧ n ≤ hi) : inB n lo hi = true := decide_eq_true h
theorem inB_no {n lo hi : Int} (h : ¬ (lo ≤ n ∧ n ≤ hi)) : inB n lo hi = false := decide_eq_false h

set_option maxHeartbeats 400000 in
theorem in_any (n lo hi : Int) (w : World) : Calls Tryz.prog 66 #[.int .i64 n, .int .i64 lo, .int .i64 hi] w fun e w' => e = .returned (.bool (inB n lo hi)) ∧ w = w' := by
  by_cases h1 : lo ≤ n
  · by_cases h2 : n ≤ hi
    · go_enter Tryz.func66, Tryz.ntmps66
      go_wp2
      go_ret
      exact ⟨ret_bool (inB_yes (by omega)).symm, rfl⟩
    · go_enter Tryz.func66, Tryz.ntmps66
      go_wp2
      go_ret
      exact ⟨ret_bool (inB_no (by omega)).symm, rfl⟩
  · go_enter Tryz.func66, Tryz.ntmps66
    go_wp2
    go_ret
    exact ⟨ret_bool (inB_no (by omega)).symm, rfl⟩

theorem gcd_emod (x y : Int) : Int.gcd y (x % y) = Int.gcd x y := by
  rw [Int.gcd_comm x y]
  conv => rhs; rw [← Int.mul_ediv_add_emod x y, Int.add_comm]
  simp
theorem gcd_zero_of {x y n d : Int} (h : Int.gcd x y = Int.gcd n d) (hd : ¬ d = 0) : y = 0 → ¬ x = 0 := by
  intro h1 h2
  subst h1 h2
  have : Int.gcd n d = 0 := by rw [← h]; rfl
  rw [Int.gcd_eq_zero_iff] at this
  exact hd this.2

set_option maxHeartbeats 1600000 in
theorem of2_any (n d : Int) (w : World) (h1 : -9223372036854775808 < n) (h2 : n ≤ 9223372036854775807)
   (h3 : -9223372036854775808 < d) (h4 : d ≤ 9223372036854775807) (hd : ¬ d = 0) :
    Calls Tryz.prog 122 #[.int .i64 n, .int .i64 d] w fun e w' => e = .returned (.int .i64 (gcdM n d)) ∧ Below w.heap.size w w' := by
  by_cases hn0 : n < 0
  · by_cases hd0 : d < 0
    · go_enter Tryz.func122, Tryz.ntmps122
      go_wp2
      go_loopw [0, 1] (fun a b wr => ∃ x y : Int, a = .int .i64 x ∧ b = .int .i64 y ∧ 0 ≤ x ∧ x ≤ 9223372036854775807 ∧ 0 ≤ y ∧ y ≤ 9223372036854775807 ∧ Int.gcd x y = Int.gcd n d ∧ Below w.heap.size w wr) (fun _ b _ => (intOf b).natAbs)
      case atStart => exact ⟨_, _, rfl, rfl, by omega, by omega, by omega, by omega, by simp, Below.refl _ _⟩
      case round =>
        obtain ⟨x, y, rfl, rfl, hx1, hx2, hy1, hy2, hg, hb⟩ := hrel
        have Hg := Lib.hid hg
        have hsz := hb.size
        have hx0 := gcd_zero_of hg hd
        clear hg
        by_cases hy : 0 < y
        · have hy0 : ¬ y = 0 := by omega
          go_wp2
          refine wp_region_quiet_all (fun w' => ∃ x : Lower _, w' = x.val) (by kernel_rfl) (by kernel_rfl) ⟨⟨_, (Below.refl _ _).drew⟩, rfl⟩ ?_
          repeat (go_big_quiet_step (fail))
          refine wpQuiet_nil ?_
          intro w1 hx1
          obtain ⟨x1, hx1⟩ := hx1
          have hb1 := x1.prop
          rw [← hx1] at hb1
          clear hx1 x1
          obtain ⟨hc1, hf1⟩ := bcell hb1
          have hs1 := hb1.size
          try simp at hs1
          try have hz0 : w.heap.size < w1.heap.size := by omega
          try have hz1 : w.heap.size + 1 < w1.heap.size := by omega
          try have hz2 : w.heap.size + 1 + 1 < w1.heap.size := by omega
          try have hz3 : w.heap.size + 1 + 1 + 1 < w1.heap.size := by omega
          try have hz4 : w.heap.size + 1 + 1 + 1 + 1 < w1.heap.size := by omega
          try have hz5 : w.heap.size + 1 + 1 + 1 + 1 + 1 < w1.heap.size := by omega
          go_wp2
          have a1 := Int.emod_nonneg x hy0
          have a2 := Int.emod_lt_of_pos x hy
          go_roundw
          case rel => exact ⟨y, x % y, rfl, rfl, hy1, hy2, by omega, by omega, by rw [gcd_emod]; exact Hg.out, by ((repeat' (first | exact Below.refl _ _ | assumption | refine Below.setCell ?_ ?_ _ | refine bdrewN ?_ _ | refine Below.drew ?_ | refine Below.alloc ?_ ?_ _ | refine bbehind ?_ (by assumption) ?_)); all_goals first | (simp; done) | (simp; omega) | omega)⟩
          case measure => simp [intOf]; omega
        · have hy0 : y = 0 := by omega
          subst hy0
          have hx3 : (x == 0) = false := by simpa using hx0 rfl
          clear hx0
          go_wp2
          go_ret
          exact ⟨ret_int (by unfold gcdM; rw [← Hg.out]; simp; omega), hb⟩
    · go_enter Tryz.func122, Tryz.ntmps122
      go_wp2
      go_loopw [0, 1] (fun a b wr => ∃ x y : Int, a = .int .i64 x ∧ b = .int .i64 y ∧ 0 ≤ x ∧ x ≤ 9223372036854775807 ∧ 0 ≤ y ∧ y ≤ 9223372036854775807 ∧ Int.gcd x y = Int.gcd n d ∧ Below w.heap.size w wr) (fun _ b _ => (intOf b).natAbs)
      case atStart => exact ⟨_, _, rfl, rfl, by omega, by omega, by omega, by omega, by simp, Below.refl _ _⟩
      case round =>
        obtain ⟨x, y, rfl, rfl, hx1, hx2, hy1, hy2, hg, hb⟩ := hrel
        have Hg := Lib.hid hg
        have hsz := hb.size
        have hx0 := gcd_zero_of hg hd
        clear hg
        by_cases hy : 0 < y
        · have hy0 : ¬ y = 0 := by omega
          go_wp2
          refine wp_region_quiet_all (fun w' => ∃ x : Lower _, w' = x.val) (by kernel_rfl) (by kernel_rfl) ⟨⟨_, (Below.refl _ _).drew⟩, rfl⟩ ?_
          repeat (go_big_quiet_step (fail))
          refine wpQuiet_nil ?_
          intro w1 hx1
          obtain ⟨x1, hx1⟩ := hx1
          have hb1 := x1.prop
          rw [← hx1] at hb1
          clear hx1 x1
          obtain ⟨hc1, hf1⟩ := bcell hb1
          have hs1 := hb1.size
          try simp at hs1
          try have hz0 : w.heap.size < w1.heap.size := by omega
          try have hz1 : w.heap.size + 1 < w1.heap.size := by omega
          try have hz2 : w.heap.size + 1 + 1 < w1.heap.size := by omega
          try have hz3 : w.heap.size + 1 + 1 + 1 < w1.heap.size := by omega
          try have hz4 : w.heap.size + 1 + 1 + 1 + 1 < w1.heap.size := by omega
          try have hz5 : w.heap.size + 1 + 1 + 1 + 1 + 1 < w1.heap.size := by omega
          go_wp2
          have a1 := Int.emod_nonneg x hy0
          have a2 := Int.emod_lt_of_pos x hy
          go_roundw
          case rel => exact ⟨y, x % y, rfl, rfl, hy1, hy2, by omega, by omega, by rw [gcd_emod]; exact Hg.out, by ((repeat' (first | exact Below.refl _ _ | assumption | refine Below.setCell ?_ ?_ _ | refine bdrewN ?_ _ | refine Below.drew ?_ | refine Below.alloc ?_ ?_ _ | refine bbehind ?_ (by assumption) ?_)); all_goals first | (simp; done) | (simp; omega) | omega)⟩
          case measure => simp [intOf]; omega
        · have hy0 : y = 0 := by omega
          subst hy0
          have hx3 : (x == 0) = false := by simpa using hx0 rfl
          clear hx0
          go_wp2
          go_ret
          exact ⟨ret_int (by unfold gcdM; rw [← Hg.out]; simp; omega), hb⟩
  · by_cases hd0 : d < 0
    · go_enter Tryz.func122, Tryz.ntmps122
      go_wp2
      go_loopw [0, 1] (fun a b wr => ∃ x y : Int, a = .int .i64 x ∧ b = .int .i64 y ∧ 0 ≤ x ∧ x ≤ 9223372036854775807 ∧ 0 ≤ y ∧ y ≤ 9223372036854775807 ∧ Int.gcd x y = Int.gcd n d ∧ Below w.heap.size w wr) (fun _ b _ => (intOf b).natAbs)
      case atStart => exact ⟨_, _, rfl, rfl, by omega, by omega, by omega, by omega, by simp, Below.refl _ _⟩
      case round =>
        obtain ⟨x, y, rfl, rfl, hx1, hx2, hy1, hy2, hg, hb⟩ := hrel
        have Hg := Lib.hid hg
        have hsz := hb.size
        have hx0 := gcd_zero_of hg hd
        clear hg
        by_cases hy : 0 < y
        · have hy0 : ¬ y = 0 := by omega
          go_wp2
          refine wp_region_quiet_all (fun w' => ∃ x : Lower _, w' = x.val) (by kernel_rfl) (by kernel_rfl) ⟨⟨_, (Below.refl _ _).drew⟩, rfl⟩ ?_
          repeat (go_big_quiet_step (fail))
          refine wpQuiet_nil ?_
          intro w1 hx1
          obtain ⟨x1, hx1⟩ := hx1
          have hb1 := x1.prop
          rw [← hx1] at hb1
          clear hx1 x1
          obtain ⟨hc1, hf1⟩ := bcell hb1
          have hs1 := hb1.size
          try simp at hs1
          try have hz0 : w.heap.size < w1.heap.size := by omega
          try have hz1 : w.heap.size + 1 < w1.heap.size := by omega
          try have hz2 : w.heap.size + 1 + 1 < w1.heap.size := by omega
          try have hz3 : w.heap.size + 1 + 1 + 1 < w1.heap.size := by omega
          try have hz4 : w.heap.size + 1 + 1 + 1 + 1 < w1.heap.size := by omega
          try have hz5 : w.heap.size + 1 + 1 + 1 + 1 + 1 < w1.heap.size := by omega
          go_wp2
          have a1 := Int.emod_nonneg x hy0
          have a2 := Int.emod_lt_of_pos x hy
          go_roundw
          case rel => exact ⟨y, x % y, rfl, rfl, hy1, hy2, by omega, by omega, by rw [gcd_emod]; exact Hg.out, by ((repeat' (first | exact Below.refl _ _ | assumption | refine Below.setCell ?_ ?_ _ | refine bdrewN ?_ _ | refine Below.drew ?_ | refine Below.alloc ?_ ?_ _ | refine bbehind ?_ (by assumption) ?_)); all_goals first | (simp; done) | (simp; omega) | omega)⟩
          case measure => simp [intOf]; omega
        · have hy0 : y = 0 := by omega
          subst hy0
          have hx3 : (x == 0) = false := by simpa using hx0 rfl
          clear hx0
          go_wp2
          go_ret
          exact ⟨ret_int (by unfold gcdM; rw [← Hg.out]; simp; omega), hb⟩
    · go_enter Tryz.func122, Tryz.ntmps122
      go_wp2
      go_loopw [0, 1] (fun a b wr => ∃ x y : Int, a = .int .i64 x ∧ b = .int .i64 y ∧ 0 ≤ x ∧ x ≤ 9223372036854775807 ∧ 0 ≤ y ∧ y ≤ 9223372036854775807 ∧ Int.gcd x y = Int.gcd n d ∧ Below w.heap.size w wr) (fun _ b _ => (intOf b).natAbs)
      case atStart => exact ⟨_, _, rfl, rfl, by omega, by omega, by omega, by omega, by simp, Below.refl _ _⟩
      case round =>
        obtain ⟨x, y, rfl, rfl, hx1, hx2, hy1, hy2, hg, hb⟩ := hrel
        have Hg := Lib.hid hg
        have hsz := hb.size
        have hx0 := gcd_zero_of hg hd
        clear hg
        by_cases hy : 0 < y
        · have hy0 : ¬ y = 0 := by omega
          go_wp2
          refine wp_region_quiet_all (fun w' => ∃ x : Lower _, w' = x.val) (by kernel_rfl) (by kernel_rfl) ⟨⟨_, (Below.refl _ _).drew⟩, rfl⟩ ?_
          repeat (go_big_quiet_step (fail))
          refine wpQuiet_nil ?_
          intro w1 hx1
          obtain ⟨x1, hx1⟩ := hx1
          have hb1 := x1.prop
          rw [← hx1] at hb1
          clear hx1 x1
          obtain ⟨hc1, hf1⟩ := bcell hb1
          have hs1 := hb1.size
          try simp at hs1
          try have hz0 : w.heap.size < w1.heap.size := by omega
          try have hz1 : w.heap.size + 1 < w1.heap.size := by omega
          try have hz2 : w.heap.size + 1 + 1 < w1.heap.size := by omega
          try have hz3 : w.heap.size + 1 + 1 + 1 < w1.heap.size := by omega
          try have hz4 : w.heap.size + 1 + 1 + 1 + 1 < w1.heap.size := by omega
          try have hz5 : w.heap.size + 1 + 1 + 1 + 1 + 1 < w1.heap.size := by omega
          go_wp2
          have a1 := Int.emod_nonneg x hy0
          have a2 := Int.emod_lt_of_pos x hy
          go_roundw
          case rel => exact ⟨y, x % y, rfl, rfl, hy1, hy2, by omega, by omega, by rw [gcd_emod]; exact Hg.out, by ((repeat' (first | exact Below.refl _ _ | assumption | refine Below.setCell ?_ ?_ _ | refine bdrewN ?_ _ | refine Below.drew ?_ | refine Below.alloc ?_ ?_ _ | refine bbehind ?_ (by assumption) ?_)); all_goals first | (simp; done) | (simp; omega) | omega)⟩
          case measure => simp [intOf]; omega
        · have hy0 : y = 0 := by omega
          subst hy0
          have hx3 : (x == 0) = false := by simpa using hx0 rfl
          clear hx0
          go_wp2
          go_ret
          exact ⟨ret_int (by unfold gcdM; rw [← Hg.out]; simp; omega), hb⟩

set_option maxHeartbeats 1600000 in
theorem rcheck_any (n d : Int) (w : World) :
    Calls Tryz.prog 76 #[.agg #[.int .i64 n, .int .i64 d]] w fun e w' => e = .returned (.int .i64 (chk n d)) ∧ Below w.heap.size w w' := by
  cases hD : inB d 1 1000000000 with
  | false =>
    have h1 := inB_not hD
    go_enter Tryz.func76, Tryz.ntmps76
    go_wp2_with (go_at_call 66; refine (in_any _ _ _ _).mono ?_; rintro e w1 ⟨rfl, rfl⟩)
    go_ret
    exact ⟨ret_int (chk3 (by omega)).symm, by ((repeat' (first | exact Below.refl _ _ | assumption | refine Below.setCell ?_ ?_ _ | refine bdrewN ?_ _ | refine Below.drew ?_ | refine Below.alloc ?_ ?_ _ | refine bbehind ?_ (by assumption) ?_)); all_goals first | (simp; done) | (simp; omega) | omega)⟩
  | true =>
    have h1 := inB_of hD
    cases hN : inB n (-1000000000) 1000000000 with
    | false =>
      have h2 := inB_not hN
      go_enter Tryz.func76, Tryz.ntmps76
      go_wp2_with (go_at_call 66; refine (in_any _ _ _ _).mono ?_; rintro e w1 ⟨rfl, rfl⟩)
      go_ret
      exact ⟨ret_int (chk3 (by omega)).symm, by ((repeat' (first | exact Below.refl _ _ | assumption | refine Below.setCell ?_ ?_ _ | refine bdrewN ?_ _ | refine Below.drew ?_ | refine Below.alloc ?_ ?_ _ | refine bbehind ?_ (by assumption) ?_)); all_goals first | (simp; done) | (simp; omega) | omega)⟩
    | true =>
      have h2 := inB_of hN
      by_cases hg : 1 < gcdM n d
      · go_enter Tryz.func76, Tryz.ntmps76
        go_wp2_with (first | (go_at_call 66; refine (in_any _ _ _ _).mono ?_; rintro e w1 ⟨rfl, rfl⟩) | (go_at_call 122; refine (of2_any _ _ _ (by omega) (by omega) (by omega) (by omega) (by omega)).mono ?_; rintro e w1 ⟨rfl, hb1⟩; obtain ⟨hc1, hf1⟩ := bcell hb1; have hs1 := hb1.size; (try simp at hs1); (try have hz0 : w.heap.size < w1.heap.size := by omega); (try have hz1 : w.heap.size + 1 < w1.heap.size := by omega); (try have hz2 : w.heap.size + 1 + 1 < w1.heap.size := by omega); (try have hz3 : w.heap.size + 1 + 1 + 1 < w1.heap.size := by omega); (try have hz4 : w.heap.size + 1 + 1 + 1 + 1 < w1.heap.size := by omega); (try have hz5 : w.heap.size + 1 + 1 + 1 + 1 + 1 < w1.heap.size := by omega)))
        go_ret
        exact ⟨ret_int (by rw [chk_in (by omega), if_pos hg]), by ((repeat' (first | exact Below.refl _ _ | assumption | refine Below.setCell ?_ ?_ _ | refine bdrewN ?_ _ | refine Below.drew ?_ | refine Below.alloc ?_ ?_ _ | refine bbehind ?_ (by assumption) ?_)); all_goals first | (simp; done) | (simp; omega) | omega)⟩
      · go_enter Tryz.func76, Tryz.ntmps76
        go_wp2_with (first | (go_at_call 66; refine (in_any _ _ _ _).mono ?_; rintro e w1 ⟨rfl, rfl⟩) | (go_at_call 122; refine (of2_any _ _ _ (by omega) (by omega) (by omega) (by omega) (by omega)).mono ?_; rintro e w1 ⟨rfl, hb1⟩; obtain ⟨hc1, hf1⟩ := bcell hb1; have hs1 := hb1.size; (try simp at hs1); (try have hz0 : w.heap.size < w1.heap.size := by omega); (try have hz1 : w.heap.size + 1 < w1.heap.size := by omega); (try have hz2 : w.heap.size + 1 + 1 < w1.heap.size := by omega); (try have hz3 : w.heap.size + 1 + 1 + 1 < w1.heap.size := by omega); (try have hz4 : w.heap.size + 1 + 1 + 1 + 1 < w1.heap.size := by omega); (try have hz5 : w.heap.size + 1 + 1 + 1 + 1 + 1 < w1.heap.size := by omega)))
        go_ret
        exact ⟨ret_int (by rw [chk_in (by omega), if_neg (by omega)]), by ((repeat' (first | exact Below.refl _ _ | assumption | refine Below.setCell ?_ ?_ _ | refine bdrewN ?_ _ | refine Below.drew ?_ | refine Below.alloc ?_ ?_ _ | refine bbehind ?_ (by assumption) ?_)); all_goals first | (simp; done) | (simp; omega) | omega)⟩

end Go.Proofs.YtcgedpfolloinaaGreat

namespace Go.Proofs.YtcgedpfolloinaaGreat
open Go.RowKit Go.BigFrame

/-- 10 to a power. -/
def p10 (k : Nat) : Int := (10 : Int) ^ k
theorem p10_succ (k : Nat) : p10 (k + 1) = p10 k * 10 := Int.pow_succ _ _
theorem p10_bd (k : Nat) (h : k ≤ 9) : 1 ≤ p10 k ∧ p10 k ≤ 1000000000 := by
  have h1 : (10 : Nat) ^ k ≤ 10 ^ 9 := Nat.pow_le_pow_right (by omega) h
  have h2 : 1 ≤ (10 : Nat) ^ k := Nat.one_le_pow _ _ (by omega)
  have h3 : p10 k = ((10 ^ k : Nat) : Int) := by unfold p10; simp
  omega
theorem p10_bd' (k : Nat) (h : k < 9) : p10 k ≤ 100000000 := by
  have := p10_succ k
  have := (p10_bd (k + 1) (by omega)).2
  omega

set_option maxHeartbeats 400000 in
theorem tenTo_any (p : Nat) (w : World) (hp : p ≤ 9) : Calls Tryz.prog 216 #[.int .i64 p] w fun e w' => e = .returned (.int .i64 (p10 p)) ∧ w = w' := by
  go_enter Tryz.func216, Tryz.ntmps216
  go_wp2
  go_loop [3, 5] (fun s i => ∃ k : Nat, k ≤ p ∧ i = .int .i64 k ∧ s = .int .i64 (p10 k)) (fun _ i => p - (intOf i).toNat)
  case atStart => exact ⟨0, Nat.zero_le _, rfl, rfl⟩
  case round =>
    obtain ⟨k, hk, rfl, rfl⟩ := hrel
    by_cases hlt : k < p
    · have b1 := p10_bd k (by omega)
      have b2 := p10_bd' k (by omega)
      have HS := Lib.hid (p10_succ k)
      go_wp2
      go_round
      case rel => exact ⟨k + 1, by omega, by go_num, by rw [HS.out]⟩
      case measure => simp [intOf]; omega
    · go_wp2
      go_ret
      exact ⟨ret_int (by congr 1; omega), rfl⟩

end Go.Proofs.YtcgedpfolloinaaGreat

namespace Go.Proofs.YtcgedpfolloinaaGreat

/-- the last decimal digit, as a byte. -/
def dig (n : Nat) : UInt8 := UInt8.ofNat (48 + n % 10)
theorem dig_nat (n : Nat) : (dig n).toNat = 48 + n % 10 := by
  unfold dig; rw [UInt8.toNat_ofNat']; omega
/-- the decimal digits of a number. -/
def digs (n : Nat) : List UInt8 := if n < 10 then [dig n] else digs (n / 10) ++ [dig n]
theorem digs_lt {n : Nat} (h : n < 10) : digs n = [dig n] := by rw [digs, if_pos h]
theorem digs_ge {n : Nat} (h : ¬ n < 10) : digs n = digs (n / 10) ++ [dig n] := by rw [digs, if_neg h]

/-- at least so many digits. -/
def padS : Nat → Nat → List UInt8
  | 0, n => if n = 0 then [] else digs n
  | k + 1, n => padS k (n / 10) ++ [dig n]
theorem padS_zero (n : Nat) (h : ¬ n = 0) : padS 0 n = padS 0 (n / 10) ++ [dig n] := by
  unfold padS
  rw [if_neg h]
  by_cases h1 : n < 10
  · rw [digs_lt h1, if_pos (by omega)]; rfl
  · rw [digs_ge h1, if_neg (by omega)]
theorem padS_pred (k n : Nat) (h : 0 < n ∨ 0 < k) : padS k n = padS (k - 1) (n / 10) ++ [dig n] := by
  cases k with
  | zero => exact padS_zero n (by omega)
  | succ k => rfl
theorem padS_one (n : Nat) : padS 1 n = digs n := by
  show padS 0 (n / 10) ++ [dig n] = _
  by_cases h1 : n < 10
  · rw [digs_lt h1]; unfold padS; rw [if_pos (by omega)]; rfl
  · rw [digs_ge h1]; unfold padS; rw [if_neg (by omega)]

theorem digs_len (j : Nat) : ∀ n, n < 10 ^ (j + 1) → (digs n).length ≤ j + 1 := by
  induction j with
  | zero => intro n h; rw [digs_lt (by simpa using h)]; simp
  | succ j ih =>
    intro n h
    by_cases h1 : n < 10
    · rw [digs_lt h1]; simp
    · rw [digs_ge h1]
      have := ih (n / 10) (by rw [Nat.div_lt_iff_lt_mul (by omega)]; rw [Nat.pow_succ] at h; exact h)
      simp; omega
end Go.Proofs.YtcgedpfolloinaaGreat
