/- What the proof of PrfTreePaths rests on, part 3 of 10. -/
import Derived.RangeFuncBox
import Derived.RangeFuncNested
import Derived.OpenShut
import Derived.ProofKit
import Derived.ChangeOld
import Derived.Deep.SlicePairs
import Derived.RangeFuncLeaves
import Derived.Shelf.Abstract
import Derived.OwnWalkIn
import Derived.TacticsInMore
import Derived.LoopNIn
import Derived.LoopIn
import Derived.Maps.OwnIn
import Derived.WalkSmall
import Derived.Test.YtcgedpfolloinaaGreatPPrfTreePaths2
namespace Go.Proofs.YtcgedpfolloinaaGreat
open Go.RowKit

/-- the blocks of G are as they were; nothing is gone. -/
structure Spared (G : Nat → Prop) (W W' : World) : Prop where
  os : W'.os = W.os
  tape : W'.tape = W.tape
  output : W'.output = W.output
  size : W.heap.size ≤ W'.heap.size
  block : ∀ k, G k → W'.heap[k]? = W.heap[k]?
/-- what was there, but for G, is as it was. -/
structure But (G : Nat → Prop) (W W' : World) : Prop where
  size : W.heap.size ≤ W'.heap.size
  block : ∀ k, k < W.heap.size → ¬ G k → W'.heap[k]? = W.heap[k]?

theorem Spared.refl (G : Nat → Prop) (W : World) : Spared G W W := ⟨rfl, rfl, rfl, Nat.le_refl _, fun _ _ => rfl⟩
theorem Spared.trans {G : Nat → Prop} {A B C : World} (h : Spared G A B) (k : Spared G B C) : Spared G A C :=
  ⟨k.os.trans h.os, k.tape.trans h.tape, k.output.trans h.output, Nat.le_trans h.size k.size, fun i hi => (k.block i hi).trans (h.block i hi)⟩
theorem Spared.alloc {G : Nat → Prop} {W : World} (hG : ∀ k, G k → k < W.heap.size) (o : Obj) : Spared G W (W.alloc o) :=
  ⟨rfl, rfl, rfl, by simp, fun k hk => Below.heap_alloc _ _ _ (hG k hk)⟩
theorem Spared.setCell {G : Nat → Prop} (W : World) {p : Addr} (hp : ¬ G p.block) (u : Value) : Spared G W (W.setCell p u) :=
  ⟨rfl, rfl, rfl, by simp [World.setCell], fun k hk => Below.heap_setCell _ _ _ _ (fun e => hp (e ▸ hk))⟩
theorem Spared.grown {G : Nat → Prop} {W W' : World} {row : Option Nat} (hG : ∀ k, G k → k < W.heap.size) (hg : W.grownBy W' row) (hr : ∀ k, row = some k → ¬ G k) : Spared G W W' :=
  ⟨hg.os, hg.tape, hg.output, hg.size, fun k hk => hg.block k (hG k hk) (fun e => hr k e.symm hk)⟩
theorem Spared.putObj {G : Nat → Prop} (W : World) {l : Nat} (hl : ¬ G l) (o : Obj) : Spared G W (W.putObj l o) :=
  ⟨rfl, rfl, rfl, by simp, fun k hk => World.putObj_heap_other (fun e => hl (e ▸ hk))⟩
theorem Spared.drew (G : Nat → Prop) (W : World) : Spared G W W.drew := ⟨rfl, rfl, rfl, Nat.le_refl _, fun _ _ => rfl⟩

theorem But.refl (G : Nat → Prop) (W : World) : But G W W := ⟨Nat.le_refl _, fun _ _ _ => rfl⟩
theorem But.trans {G : Nat → Prop} {A B C : World} (h : But G A B) (k : But G B C) : But G A C :=
  ⟨Nat.le_trans h.size k.size, fun i hi hn => (k.block i (Nat.lt_of_lt_of_le hi h.size) hn).trans (h.block i hi hn)⟩
/-- G may have grown by what is new. -/
theorem But.trans' {G G' : Nat → Prop} {A B C : World} (h : But G A B) (hG : ∀ k, G' k → G k ∨ A.heap.size ≤ k) (k : But G' B C) : But G A C :=
  ⟨Nat.le_trans h.size k.size, fun i hi hn => (k.block i (Nat.lt_of_lt_of_le hi h.size) (fun hg => (hG i hg).elim hn (fun h => by omega))).trans (h.block i hi hn)⟩
theorem But.of_below {G : Nat → Prop} {W W' : World} (h : Below W.heap.size W W') : But G W W' := ⟨h.size, fun k hk _ => h.block k hk⟩
theorem But.putObj {G : Nat → Prop} (W : World) {l : Nat} (hl : G l) (o : Obj) : But G W (W.putObj l o) :=
  ⟨by simp, fun k _ hn => World.putObj_heap_other (fun e => hn (e ▸ hl))⟩
theorem But.mono {G G' : Nat → Prop} {W W' : World} (h : But G W W') (hG : ∀ k, G k → G' k) : But G' W W' := ⟨h.size, fun k hk hn => h.block k hk (fun hg => hn (hG k hg))⟩

/-- what an iterator promises that hands its elements to a yield function, whatever it writes of its own. -/
def SeqOwn {α : Type} (P : Program) (g : Nat) (lb : Array Value) (Enc : α → Array Value → World → Prop) (S Sp : List α → Prop) (n₀ : Nat) (St : World → Prop) : Prop :=
  ∀ (m l : Nat) (J : List α → (Nat → Prop) → World → Prop) (Jx : List α → World → Prop) (G : Nat → Prop) (W : World), St W →
    (∀ s G W W', J s G W → Spared G W W' → J s G W') → (∀ s G W, J s G W → ∀ k, G k → k < W.heap.size) →
    (∀ m s x args G W1, J s G W1 → Enc x args W1 → YieldAt Fence.wide m P l args W1 fun e W' =>
      (e = .returned (.bool true) ∧ ∃ G', (∀ k, G' k → G k ∨ W1.heap.size ≤ k) ∧ J (s ++ [x]) G' W' ∧ But G W1 W' ∧ Below n₀ W1 W') ∨ (e = .returned (.bool false) ∧ Jx (s ++ [x]) W')) →
    (∀ k, n₀ ≤ k → k < W.heap.size → ¬ G k → True) → J [] G W →
    CallsIn Fence.wide m P g (#[.func (.yield l) #[] #[]] ++ lb) W fun e W' => (∃ v, e = .returned v) ∧ ((∃ xs G', S xs ∧ J xs G' W') ∨ (∃ pre, Sp pre ∧ Jx pre W'))

/-- how the body of a round may be left. -/
def roundOwn {α : Type} (n₀ : Nat) (I : List α → (Nat → Prop) → World → Prop) (Ix : Code → List α → World → Prop) (xs : List α) (G : Nat → Prop) (W : World) : Exit → Act → World → Prop
  | .normal, _, W' => But G W W' ∧ Below n₀ W W' ∧ ∃ G', (∀ k, G' k → G k ∨ W.heap.size ≤ k) ∧ I xs G' W'
  | .ret, _, W' => But G W W' ∧ Ix .ret xs W'
  | .exit id, _, W' => But G W W' ∧ Ix (.exit id) xs W'
  | .goto t, _, W' => But G W W' ∧ Ix (.goto t) xs W'
  | .panic _, _, _ => False
  | .outgrown, _, _ => False

variable {P : Program}

theorem range_own {α : Type} {n : Nat} {g : Operand} {ps : Array Tmp} {assign body : Code} {Q : Exit → Act → World → Prop} {a : Act} {w : World}
    {gf : Nat} {lb : Array Value} (hg : a.eval g = .func (.func gf) #[] lb) (eg : ∀ args w, (callFunc gf args).run P w = .ok (.enter gf args) w)
    {Enc : α → Array Value → World → Prop} {S Sp : List α → Prop} {n₀ : Nat} {St : World → Prop} (hseq : SeqOwn P gf lb Enc S Sp n₀ St)
    (hn₀ : n₀ ≤ w.heap.size) (hSt : ∀ o, St ((w.alloc (.deferred (some []))).alloc o)) (hps : ∀ x args W, Enc x args W → args.size = ps.size)
    (I : List α → (Nat → Prop) → World → Prop) (Ix : Code → List α → World → Prop) (G0 : Nat → Prop)
    (hI : ∀ s G W W', I s G W → Spared G W W' → I s G W') (hIs : ∀ s G W, I s G W → ∀ k, G k → k < W.heap.size)
    (hIx : ∀ c s W l o o', w.heap.size ≤ l → W.heap[l]? = some o → o.isCells = false → Ix c s W → Ix c s (W.putObj l o'))
    (hG0 : ∀ k, G0 k → k < w.heap.size) (h0 : I [] G0 w)
    (Ax : α → Act → World → Prop) (hAx : ∀ x a' W l o o', W.heap[l]? = some o → o.isCells = false → Ax x a' W → Ax x a' (W.putObj l o'))
    (hassign : ∀ (n' l : Nat) (pre : List α) (x : α) (args : Array Value) (G : Nat → Prop) (W : World) (K : Act → World → Prop), I pre G W → Enc x args W → w.heap.size + 2 ≤ W.heap.size →
      (∀ a' W', But G W W' → Below n₀ W W' → I pre G W' → Ax x a' W' → K a' W') →
      assign.wpIn (Fence.wide.inRound l) n' P (Exit.then K (fun _ _ _ => False)) { tmps := (ps.zip args).foldl (fun t (p, v) => t.setIfInBounds p v) a.tmps, defers := [] } W)
    (hbody : ∀ (n' l : Nat) (pre : List α) (x : α) (a' : Act) (G : Nat → Prop) (W : World), I pre G W → Ax x a' W → w.heap.size + 2 ≤ W.heap.size → body.wpIn (Fence.wide.inRound l) n' P (roundOwn n₀ I Ix (pre ++ [x]) G W) a' W)
    (hdone : ∀ (D : Nat) (xs : List α) (G : Nat → Prop) (W : World), w.heap.size ≤ D → S xs → I xs G W → W.heap[D]? = some (.deferred (some [])) → Q .normal { a with defers := { target := .collected D, args := #[] } :: a.defers } W)
    (hstop : ∀ (D : Nat) (c : Code) (pre : List α) (W : World), w.heap.size ≤ D → Sp pre → Ix c pre W → W.heap[D]? = some (.deferred (some [])) → c.wpIn Fence.wide n P Q { a with defers := { target := .collected D, args := #[] } :: a.defers } W) :
    (Code.rangeFunc g ps assign body).wpIn Fence.wide n P Q a w := by
  refine wpIn_rangeFunc ?_
  intro fn hfn
  obtain ⟨rec, hrec⟩ : ∃ rec : LoopState → Option Code → Loop, rec = fun st pe => { state := st, pending := pe, fn, tmps := a.tmps, params := ps, assign, body, defers := w.heap.size } := ⟨_, rfl⟩
  obtain ⟨W1, hW1⟩ : ∃ W1, (w.alloc (.deferred (some []))).alloc (.loop (rec .ready none)) = W1 := ⟨_, rfl⟩
  have hz1 : W1.heap.size = w.heap.size + 1 + 1 := by rw [← hW1]; simp
  have hL1 : W1.heap[w.heap.size + 1]? = some (.loop (rec .ready none)) := by
    rw [← hW1]; have := World.alloc_heap_new (w.alloc (.deferred (some []))) (.loop (rec .ready none)); rwa [World.size_alloc] at this
  have hK1 : W1.heap[w.heap.size]? = some (.deferred (some [])) := by
    rw [← hW1]; exact (Below.heap_alloc _ _ _ (by simp)).trans (World.alloc_heap_new w _)
  have hI1 : I [] G0 W1 := by
    rw [← hW1]
    exact hI _ _ _ _ h0 ((Spared.alloc hG0 _).trans (Spared.alloc (fun k hk => by have := hG0 k hk; simp; omega) _))
  refine ⟨w.heap.size + 1, [{ target := .collected w.heap.size, args := #[] }], W1, { target := .fn (.func gf) lb, args := #[.func (.yield (w.heap.size + 1)) #[] #[]] }, W1, gf,
    #[.func (.yield (w.heap.size + 1)) #[] #[]] ++ lb, W1, ?_, ?_, ?_, ?_, (fun h => by cases h), ?_⟩
  · rw [← hW1, hrec]; exact run_enterLoop_outer _ _ _ _ _
  · simp only [resolve, hg]
    simp [go_sem]
  · intro f' _; trivial
  · simp [invoke, go_sem, eg]
  · -- whose blocks are whose: the caller's, and the two that the statement has laid
    let T : Nat → Prop := fun k => k = w.heap.size ∨ k = w.heap.size + 1
    have hnot : ∀ (A : Nat → Prop), (∀ k, A k → ¬ T k) → ¬ A (w.heap.size + 1) ∧ ¬ A w.heap.size := fun A h => ⟨fun h1 => h _ h1 (.inr rfl), fun h1 => h _ h1 (.inl rfl)⟩
    refine (hseq (n - 1) (w.heap.size + 1)
      (fun pre G W => ∃ A : Nat → Prop, (∀ k, G k ↔ (A k ∨ T k)) ∧ (∀ k, A k → ¬ T k) ∧ I pre A W ∧ W.heap[w.heap.size + 1]? = some (.loop (rec .ready none)) ∧ W.heap[w.heap.size]? = some (.deferred (some [])))
      (fun pre W => ∃ c, Ix c pre W ∧ W.heap[w.heap.size + 1]? = some (.loop (rec .done (some c))) ∧ W.heap[w.heap.size]? = some (.deferred (some [])))
      (fun k => G0 k ∨ T k) W1 (by rw [← hW1]; exact hSt _) ?_ ?_ ?_ (fun _ _ _ _ => trivial) ⟨G0, fun _ => Iff.rfl, fun k hk ht => by have := hG0 k hk; rcases ht with rfl | rfl <;> omega, hI1, hL1, hK1⟩).mono ?_
    · rintro s G A B ⟨X, hX, hT, hi, hl, hk⟩ sp
      exact ⟨X, hX, hT, hI _ _ _ _ hi ⟨sp.os, sp.tape, sp.output, sp.size, fun k hk => sp.block k ((hX k).2 (.inl hk))⟩, (sp.block _ ((hX _).2 (.inr (.inr rfl)))).trans hl, (sp.block _ ((hX _).2 (.inr (.inl rfl)))).trans hk⟩
    · rintro s G A ⟨X, hX, hT, hi, hl, hk⟩ k hgk
      rcases (hX k).1 hgk with h | rfl | rfl
      · exact hIs _ _ _ hi k h
      · exact (Array.getElem?_eq_some_iff.1 hk).1
      · exact (Array.getElem?_eq_some_iff.1 hl).1
    · -- one round
      rintro m pre x args G W ⟨A, hX, hT, hi, hl, hk⟩ hen
      obtain ⟨hA1, hA0⟩ := hnot A hT
      have hlt : w.heap.size + 1 < W.heap.size := (Array.getElem?_eq_some_iff.1 hl).1
      have hy := run_yield (P := P) (args := args) hl (by rw [hrec]; exact hps x args W hen)
      rw [hrec] at hy
      refine ⟨fn, _, assign, body, hy, roundIn_of_wpIn hfn (hassign m _ pre x args A W _ hi hen (by omega) ?_)⟩
      clear hy
      intro a' Wa hba hwa hia hax
      have hla : Wa.heap[w.heap.size + 1]? = some (.loop (rec .ready none)) := (hba.block _ hlt hA1).trans hl
      have hka : Wa.heap[w.heap.size]? = some (.deferred (some [])) := (hba.block _ (by omega) hA0).trans hk
      have hza := hba.size
      have hlta : w.heap.size + 1 < Wa.heap.size := by omega
      refine ⟨_, run_beginRound hla (by rw [hrec]), ?_⟩
      obtain ⟨Wb, hWb⟩ : ∃ Wb, Wa.putObj (w.heap.size + 1) (.loop { rec .ready none with state := .busy }) = Wb := ⟨_, rfl⟩
      have hzb : Wb.heap.size = Wa.heap.size := by rw [← hWb]; simp
      have hlb : Wb.heap[w.heap.size + 1]? = some (.loop { rec .ready none with state := .busy }) := by rw [← hWb]; exact World.putObj_heap_same hlta
      have hkb : Wb.heap[w.heap.size]? = some (.deferred (some [])) := by rw [← hWb]; exact (World.putObj_heap_other (by omega)).trans hka
      have hib : I pre A Wb := by rw [← hWb]; exact hI _ _ _ _ hia (Spared.putObj _ hA1 _)
      have hxb : Ax x a' Wb := by rw [← hWb]; exact hAx _ _ _ _ _ _ hla rfl hax
      have hbb : But (fun k => A k ∨ T k) W Wb := (hba.mono fun k h => .inl h).trans (by rw [← hWb]; exact But.putObj _ (.inr (.inr rfl)) _)
      have hwb : Below n₀ W Wb := hwa.trans (by
        rw [← hWb]
        exact ⟨rfl, rfl, rfl, by simp, fun k hk => World.putObj_heap_other (by omega)⟩)
      have hG : ∀ k, ¬ G k → ¬ (A k ∨ T k) := fun k hn h => hn ((hX k).2 h)
      rw [hWb]
      refine wpIn_mono (hbody m _ pre x a' A Wb hib hxb (by omega)) ?_
      have fin : ∀ (jump : Option Code) (W3 : World), But A Wb W3 →
          (Instr.endRound (w.heap.size + 1) jump).run P W3 = .ok (.bool jump.isNone) (W3.putObj (w.heap.size + 1) (.loop (rec (if jump.isNone then .ready else .done) jump))) ∧
          W3.heap[w.heap.size + 1]? = some (.loop { rec .ready none with state := .busy }) ∧
          (W3.putObj (w.heap.size + 1) (.loop (rec (if jump.isNone then .ready else .done) jump))).heap[w.heap.size + 1]? = some (.loop (rec (if jump.isNone then .ready else .done) jump)) ∧
          (W3.putObj (w.heap.size + 1) (.loop (rec (if jump.isNone then .ready else .done) jump))).heap[w.heap.size]? = some (.deferred (some [])) := fun jump W3 h3 => by
        have hl3 := (h3.block _ (by omega) hA1).trans hlb
        have hk3 := (h3.block _ (by omega) hA0).trans hkb
        have := run_endRound (P := P) jump hl3
        rw [hrec] at this ⊢
        exact ⟨this, by rw [hrec] at hl3; exact hl3, World.putObj_heap_same (Array.getElem?_eq_some_iff.1 hl3).1, (World.putObj_heap_other (by omega)).trans hk3⟩
      rintro e a3 W3 hp
      cases e with
      | normal =>
        obtain ⟨hb3, hw3, A', hA', hi3⟩ := hp
        obtain ⟨hr, hl3, hl4, hk4⟩ := fin none W3 hb3
        have hz3 := hb3.size
        have hT' : ∀ k, A' k → ¬ T k := fun k h ht => by
          rcases hA' k h with h' | h'
          · exact hT k h' ht
          · rcases ht with rfl | rfl <;> omega
        obtain ⟨hA1', _⟩ := hnot A' hT'
        refine ⟨_, _, hr, .inl ⟨rfl, fun k => A' k ∨ T k, ?_, ⟨A', fun _ => Iff.rfl, hT', hI _ _ _ _ hi3 (Spared.putObj _ hA1' _), hl4, hk4⟩, ?_, ?_⟩⟩
        · intro k hk'
          rcases hk' with h | h
          · rcases hA' k h with h' | h'
            · exact .inl ((hX k).2 (.inl h'))
            · exact .inr (by omega)
          · exact .inl ((hX k).2 (.inr h))
        · refine (((hbb.trans (hb3.mono fun k h => .inl h)).trans (But.putObj _ (.inr (.inr rfl)) _)).mono fun k h => (hX k).2 h)
        · refine (hwb.trans hw3).trans ⟨rfl, rfl, rfl, by simp, fun k hk => World.putObj_heap_other (by omega)⟩
      | ret =>
        obtain ⟨hb3, hi3⟩ := hp
        obtain ⟨hr, hl3, hl4, hk4⟩ := fin (some .ret) W3 hb3
        exact ⟨_, _, hr, .inr ⟨rfl, .ret, hIx _ _ _ _ _ _ (by omega) hl3 rfl hi3, hl4, hk4⟩⟩
      | exit id =>
        obtain ⟨hb3, hi3⟩ := hp
        obtain ⟨hr, hl3, hl4, hk4⟩ := fin (some (.exit id)) W3 hb3
        exact ⟨_, _, hr, .inr ⟨rfl, .exit id, hIx _ _ _ _ _ _ (by omega) hl3 rfl hi3, hl4, hk4⟩⟩
      | goto t =>
        obtain ⟨hb3, hi3⟩ := hp
        obtain ⟨hr, hl3, hl4, hk4⟩ := fin (some (.goto t)) W3 hb3
        exact ⟨_, _, hr, .inr ⟨rfl, .goto t, hIx _ _ _ _ _ _ (by omega) hl3 rfl hi3, hl4, hk4⟩⟩
      | panic ch => exact hp.elim
      | outgrown => exact hp.elim
    · -- behind the iterator
      rintro e W2 ⟨⟨v, rfl⟩, (⟨xs, G, hS, A, hX, hT, hi, hl, hk⟩ | ⟨pre, hSp, c, hi, hl, hk⟩)⟩
      · obtain ⟨hA1, hA0⟩ := hnot A hT
        exact ⟨none, _, by have := run_endLoop (P := P) hl (by rw [hrec]; simp); rw [hrec] at this; exact this, hdone _ xs A _ (Nat.le_refl _) hS (hI _ _ _ _ hi (Spared.putObj _ hA1 _)) ((World.putObj_heap_other (by omega)).trans hk)⟩
      · exact ⟨some c, _, by have := run_endLoop (P := P) hl (by rw [hrec]; simp); rw [hrec] at this; exact this, hstop _ c pre _ (Nat.le_refl _) hSp (hIx _ _ _ _ _ _ (by omega) hl rfl hi) ((World.putObj_heap_other (by omega)).trans hk)⟩
end Go.Proofs.YtcgedpfolloinaaGreat

namespace Go.Proofs.YtcgedpfolloinaaGreat
open Go.ChangeShapes Go.WideShapes Go.ChangeAt Go.RowKit Go.BigFrame

/-- where a list of integers lies: an empty one wherever, another one in cells. -/
def IntsLie (w : World) (v : Value) (l : List Int) : Prop :=
  (∃ a cap, v = .slice a 0 cap ∧ l = []) ∨ ∃ b off cap, v = .slice (some ⟨b, off, none⟩) l.length cap ∧ l.length ≤ cap ∧ b < w.heap.size ∧ ∀ k, k < l.length → w.cell? ⟨b, off + k, none⟩ = some (.int .i64 (l.getD k 0))

theorem ints_below {w w' : World} {v : Value} {l : List Int} (h : IntsLie w v l) (k : Below w.heap.size w w') : IntsLie w' v l := by
  rcases h with h | ⟨b, off, cap, h1, h0, h2, h3⟩
  · exact .inl h
  · obtain ⟨hc, _⟩ := bcell k
    exact .inr ⟨b, off, cap, h1, h0, Nat.lt_of_lt_of_le h2 k.size, fun i hi => (hc _ _ h2).trans (h3 i hi)⟩
theorem ints_form {w : World} {v : Value} {l : List Int} (h : IntsLie w v l) : ∃ a cap, v = .slice a l.length cap := by
  rcases h with ⟨a, cap, rfl, rfl⟩ | ⟨b, off, cap, rfl, _⟩
  · exact ⟨a, cap, rfl⟩
  · exact ⟨_, cap, rfl⟩
theorem ints_cells {w : World} {v : Value} {l : List Int} (h : IntsLie w v l) (hl : ¬ l = []) : ∃ b off cap, v = .slice (some ⟨b, off, none⟩) l.length cap ∧ l.length ≤ cap ∧ b < w.heap.size ∧ ∀ k, k < l.length → w.cell? ⟨b, off + k, none⟩ = some (.int .i64 (l.getD k 0)) := by
  rcases h with ⟨a, cap, rfl, rfl⟩ | h
  · exact absurd rfl hl
  · exact h

def alikeB (l m : List Int) : Bool := decide (l = m)
theorem take_eq_next {l m : List Int} {k : Nat} (hl : k < l.length) (hm : k < m.length) (h : l.take k = m.take k) (e : l.getD k 0 = m.getD k 0) : l.take (k + 1) = m.take (k + 1) := by
  rw [List.take_succ_eq_append_getElem hl, List.take_succ_eq_append_getElem hm, h]
  rw [List.getD_eq_getElem?_getD, List.getD_eq_getElem?_getD, List.getElem?_eq_getElem hl, List.getElem?_eq_getElem hm] at e
  simp only [Option.getD_some] at e
  rw [e]

set_option maxRecDepth 100000 in
set_option maxHeartbeats 1000000 in
theorem alike_any (v u : Value) (l m : List Int) (w : World) (h1 : IntsLie w v l) (h2 : IntsLie w u m) (hl : l.length ≤ 1000000) (hm : m.length ≤ 1000000) :
    Calls Tryz.prog 43 #[v, u] w fun e w' => e = .returned (.bool (alikeB l m)) ∧ Below w.heap.size w w' := by
  by_cases hlen : l.length = m.length
  · by_cases h0 : l = []
    · subst h0
      obtain rfl : m = [] := by cases m with | nil => rfl | cons a t => simp at hlen
      obtain ⟨a1, c1, rfl⟩ := ints_form h1
      obtain ⟨a2, c2, rfl⟩ := ints_form h2
      clear h1 h2
      go_enter Tryz.func43, Tryz.ntmps43
      go_wp2
      go_loopw [5] (fun i wr => i = .int .i64 0 ∧ Below w.heap.size w wr) (fun i _ => 0)
      case atStart => exact ⟨rfl, Below.refl _ _⟩
      case round =>
        obtain ⟨rfl, hbw⟩ := hrel
        go_wp2
        go_ret
        exact ⟨rfl, hbw⟩
    · have h0' : ¬ m = [] := by rintro rfl; exact h0 (by cases l with | nil => rfl | cons a t => simp at hlen)
      obtain ⟨b, off, c1, rfl, _, hb, hc⟩ := ints_cells h1 h0
      obtain ⟨b', off', c2, rfl, _, hb', hc'⟩ := ints_cells h2 h0'
      have HC := Lib.hid hc; have HC' := Lib.hid hc'; clear hc hc' h1 h2
      have HL := Lib.hid hlen
      go_enter Tryz.func43, Tryz.ntmps43
      go_wp2
      go_loopw [5] (fun i wr => ∃ k : Nat, i = .int .i64 k ∧ k ≤ l.length ∧ l.take k = m.take k ∧ Below w.heap.size w wr) (fun i _ => l.length - (intOf i).toNat)
      case atStart => exact ⟨0, rfl, Nat.zero_le _, by simp, Below.refl _ _⟩
      case round =>
        obtain ⟨k, rfl, hk, ht, hbw⟩ := hrel
        have HT := Lib.hid ht; clear ht
        by_cases hlt : k < l.length
        · have hlt' : k < m.length := by have := HL.out; omega
          have d1 : wr.cell? ⟨b, off + k, none⟩ = some (.int .i64 (l.getD k 0)) := by rw [hbw.cell (p := ⟨b, _, none⟩) hb]; exact HC.out k hlt
          have d2 : wr.cell? ⟨b', off' + k, none⟩ = some (.int .i64 (m.getD k 0)) := by rw [hbw.cell (p := ⟨b', _, none⟩) hb']; exact HC'.out k hlt'
          have hsz := hbw.size
          have HN := Lib.hid (take_eq_next hlt hlt' HT.out)
          have HD := Lib.hid (show l = m → l.getD k 0 = m.getD k 0 from fun h => by rw [h])
          have k1 : b < wr.heap.size := by omega
          have k2 : b' < wr.heap.size := by omega
          generalize l.getD k 0 = x at *
          generalize m.getD k 0 = y at *
          by_cases hx : x = y
          · have HX := Lib.hid hx
            have hx' : (x != y) = false := by simp [hx]
            clear hx
            go_wp2
            refine wp_region_quiet_all (fun w' => ∃ x : Lower _, w' = x.val) (by kernel_rfl) (by kernel_rfl) ⟨⟨_, (Below.refl _ _).drew⟩, rfl⟩ ?_
            repeat (go_big_quiet_step (fail))
            refine wpQuiet_nil ?_
            intro w1 hx1
            obtain ⟨x1, hx1⟩ := hx1
            have hb1 := x1.prop
            rw [← hx1] at hb1
            clear hx1 x1
            obtain ⟨hc1, hf1⟩ := bcell hb1
            have hs1 := hb1.size
            try simp at hs1
            try have hz10 : w.heap.size < w1.heap.size := by omega
            try have hz11 : w.heap.size + 1 < w1.heap.size := by omega
            try have hz12 : w.heap.size + 1 + 1 < w1.heap.size := by omega
            try have hz13 : w.heap.size + 1 + 1 + 1 < w1.heap.size := by omega
            try have hz14 : w.heap.size + 1 + 1 + 1 + 1 < w1.heap.size := by omega
            try have hz15 : w.heap.size + 1 + 1 + 1 + 1 + 1 < w1.heap.size := by omega
            go_wp2
            go_roundw
            case rel => exact ⟨k + 1, by go_num, by omega, HN.out HX.out, by ((repeat' (first | exact Below.refl _ _ | assumption | refine Below.setCell ?_ ?_ _ | refine bdrewN ?_ _ | refine Below.drew ?_ | refine Below.alloc ?_ ?_ _ | refine bbehind ?_ (by assumption) ?_)); all_goals first | (simp; done) | (simp; omega) | omega)⟩
            case measure => simp [intOf]; omega
          · have HX := Lib.hid (show alikeB l m = false from decide_eq_false (fun h => hx (HD.out h)))
            have hx' : (x != y) = true := by simpa using hx
            clear hx
            go_wp2
            refine wp_region_quiet_all (fun w' => ∃ x : Lower _, w' = x.val) (by kernel_rfl) (by kernel_rfl) ⟨⟨_, (Below.refl _ _).drew⟩, rfl⟩ ?_
            repeat (go_big_quiet_step (fail))
            refine wpQuiet_nil ?_
            intro w1 hx1
            obtain ⟨x1, hx1⟩ := hx1
            have hb1 := x1.prop
            rw [← hx1] at hb1
            clear hx1 x1
            obtain ⟨hc1, hf1⟩ := bcell hb1
            have hs1 := hb1.size
            try simp at hs1
            try have hz10 : w.heap.size < w1.heap.size := by omega
            try have hz11 : w.heap.size + 1 < w1.heap.size := by omega
            try have hz12 : w.heap.size + 1 + 1 < w1.heap.size := by omega
            try have hz13 : w.heap.size + 1 + 1 + 1 < w1.heap.size := by omega
            try have hz14 : w.heap.size + 1 + 1 + 1 + 1 < w1.heap.size := by omega
            try have hz15 : w.heap.size + 1 + 1 + 1 + 1 + 1 < w1.heap.size := by omega
            go_wp2
            go_ret
            exact ⟨by rw [HX.out]; rfl, by ((repeat' (first | exact Below.refl _ _ | assumption | refine Below.setCell ?_ ?_ _ | refine bdrewN ?_ _ | refine Below.drew ?_ | refine Below.alloc ?_ ?_ _ | refine bbehind ?_ (by assumption) ?_)); all_goals first | (simp; done) | (simp; omega) | omega)⟩
        · have HE := Lib.hid (show alikeB l m = true from decide_eq_true (by
            have e := HT.out
            have := HL.out
            rw [List.take_of_length_le (by omega), List.take_of_length_le (by omega)] at e
            exact e))
          go_wp2
          go_ret
          exact ⟨by rw [HE.out]; rfl, hbw⟩
  · obtain ⟨a1, c1, rfl⟩ := ints_form h1
    obtain ⟨a2, c2, rfl⟩ := ints_form h2
    have HE := Lib.hid (show alikeB l m = false from decide_eq_false (fun h => hlen (by rw [h])))
    have hlen' : (((l.length : Int)) != (m.length : Int)) = true := by simp; omega
    clear h1 h2 hlen
    go_enter Tryz.func43, Tryz.ntmps43
    go_wp2
    go_ret
    exact ⟨by rw [HE.out]; rfl, Below.refl _ _⟩
end Go.Proofs.YtcgedpfolloinaaGreat

namespace Go.Proofs.YtcgedpfolloinaaGreat
open Go

section
variable {P : Program} {ops : Array Oper} {md : Region.Mode} {W : World}

theorem cell_of_block {w : World} {p o : Nat} {c : Array Value} {T : TypeId} {v : Value} (h : w.heap[p]? = some (.cells c T)) (hv : c[o]? = some v) : w.cell? ⟨p, o, none⟩ = some v := by
  unfold World.cell?; simp only [h]; exact hv
theorem frozen_of_block {w : World} {p o : Nat} {c : Array Value} {T : TypeId} (h : w.heap[p]? = some (.cells c T)) : w.frozen? ⟨p, o, none⟩ = false := by
  unfold World.frozen?; simp [h]

theorem set_block {w : World} {p o : Nat} {c : Array Value} {T : TypeId} {v : Value} (h : w.heap[p]? = some (.cells c T)) : (w.setCell ⟨p, o, none⟩ v).heap[p]? = some (.cells (c.setIfInBounds o v) T) := by
  unfold World.setCell; simp [Array.getElem?_modify, h]
theorem set_far {w : World} {p o k : Nat} {v : Value} (h : k ≠ p) : (w.setCell ⟨p, o, none⟩ v).heap[k]? = w.heap[k]? := by
  unfold World.setCell; simp [Array.getElem?_modify, Ne.symm h]
theorem set_size' {w : World} {a : Addr} {v : Value} : (w.setCell a v).heap.size = w.heap.size := by unfold World.setCell; simp

end
end Go.Proofs.YtcgedpfolloinaaGreat

namespace Go.Proofs.YtcgedpfolloinaaGreat
open Go.RowKit Go.Shelf

attribute [local go_sem] Oper.semAt_some

/-- a tree that is visited: its path, its head, its kids. -/
structure Vis where
  p : List Nat
  h : Hd
  ks : Fo
/-- the trees of a forest, from index i on, below a path. -/
def seqAt : List Nat → Nat → Fo → List Vis
  | _, _, .nil => []
  | pre, i, .cons h ks r => ⟨pre ++ [i], h, ks⟩ :: (seqAt (pre ++ [i]) 0 ks ++ seqAt pre (i + 1) r)
theorem seqAt_take_succ {f : Fo} : ∀ {k : Nat} {h : Hd} {ks r : Fo} (pre : List Nat) (i : Nat), f.drop k = .cons h ks r → seqAt pre i (f.take (k + 1)) = seqAt pre i (f.take k) ++ (⟨pre ++ [i + k], h, ks⟩ :: seqAt (pre ++ [i + k]) 0 ks) := by
  induction f with
  | nil => intro k h ks r pre i e; rw [Fo.drop_nil] at e; cases e
  | cons h0 k0 r0 _ ih =>
    intro k h ks r pre i e
    cases k with
    | zero => simp only [Fo.drop, Fo.cons.injEq] at e; obtain ⟨rfl, rfl, rfl⟩ := e; simp [Fo.take, seqAt]
    | succ k =>
      simp only [Fo.drop] at e
      have := ih pre (i + 1) e
      simp only [Fo.take, seqAt]
      rw [this, show i + 1 + k = i + (k + 1) by omega]
      simp
theorem seqAt_len : ∀ (f : Fo) (pre : List Nat) (i : Nat), (seqAt pre i f).length = f.size
  | .nil, _, _ => rfl
  | .cons h ks r, pre, i => by simp [seqAt, Fo.size, seqAt_len ks, seqAt_len r]

abbrev pathVals (p : List Nat) : List Value := p.map fun (i : Nat) => Value.int .i64 i
abbrev pathInts (p : List Nat) : List Int := p.map fun (i : Nat) => (i : Int)
/-- a tree as it is handed over. -/
def TreeAt (W : World) (tv : Value) (h : Hd) (ks : Fo) : Prop :=
  ∃ va kv, tv = .agg #[.int .i64 h.k, .string ⟨h.l.toArray⟩, va, .int .i64 h.n, .int .i64 h.d, .string ⟨h.x.toArray⟩, kv] ∧ AttrsLie W va h.ats ∧ Lies W kv ks
def EncVis (f : Fo) (w0 : World) (x : Vis) (args : Array Value) (W : World) : Prop :=
  ∃ pv tv, args = #[pv, tv] ∧ IntsLie W pv (pathInts x.p) ∧ TreeAt w0 tv x.h x.ks ∧ x ∈ seqAt [] 0 f

/-- the iterator's own cells. -/
structure IterAt (n₀ pp py pa l : Nat) (pre : List Nat) (v : Value) (G : Nat → Prop) (W : World) : Prop where
  box : Boxed W pp 41 v
  row : W.ownsRow n₀ 3 1 v pre.length (pathVals pre)
  ob : ∀ k, v.ownBlock = some k → ¬ G k
  y : Boxed W py 128 (.func (.yield l) #[] #[])
  a : Boxed W pa 30 (.func (.func 124) #[] #[.pointer (some ⟨pp, 0, none⟩), .pointer (some ⟨py, 0, none⟩), .pointer (some ⟨pa, 0, none⟩)])
  gp : ¬ G pp
  gy : ¬ G py
  ga : ¬ G pa
  np : n₀ ≤ pp

theorem boxed_ne {W : World} {B B' : Nat} {t t' : TypeId} {v v' : Value} (h : Boxed W B t v) (h' : Boxed W B' t' v') (ht : t ≠ t') : B ≠ B' := by
  rintro rfl
  have := (show W.heap[B]? = _ from h).symm.trans (show W.heap[B]? = _ from h')
  simp at this
  exact ht this.2
theorem boxed_of {W W' : World} {B : Nat} {t : TypeId} {v : Value} (h : Boxed W B t v) (hb : W'.heap[B]? = W.heap[B]?) : Boxed W' B t v := hb.trans h
theorem row_of {W W' : World} {base : Nat} {e : TypeId} {v : Value} {n : Nat} {xs : List Value} (h : W.ownsRow base e 1 v n xs) (hb : ∀ k, v.ownBlock = some k → W'.heap[k]? = W.heap[k]?) : W'.ownsRow base e 1 v n xs := by
  refine ⟨h.1, ?_⟩
  rcases h.2 with h2 | ⟨g, cap, cur, rfl, h3, h4, h5⟩
  · exact .inl h2
  · exact .inr ⟨g, cap, cur, rfl, h3, (hb g rfl).trans h4, h5⟩
theorem row_lt {W : World} {base : Nat} {e : TypeId} {v : Value} {n : Nat} {xs : List Value} (h : W.ownsRow base e 1 v n xs) {k : Nat} (hk : v.ownBlock = some k) : k < W.heap.size := (h.lt k hk).2

/-- what was the iterator's stays so, though blocks of G, and new ones, are written. -/
theorem IterAt.round {n₀ pp py pa l : Nat} {pre : List Nat} {v : Value} {G G' : Nat → Prop} {W W' : World} (h : IterAt n₀ pp py pa l pre v G W) (hb : But G W W') (hG : ∀ k, G' k → G k ∨ W.heap.size ≤ k) : IterAt n₀ pp py pa l pre v G' W' := by
  have kb := fun {B : Nat} (hB : B < W.heap.size) (hn : ¬ G B) => hb.block B hB hn
  have nG : ∀ {B : Nat}, B < W.heap.size → ¬ G B → ¬ G' B := fun hB hn hg => (hG _ hg).elim hn (fun h' => by omega)
  exact ⟨boxed_of h.box (kb h.box.lt h.gp), row_of h.row (fun k hk => kb (row_lt h.row hk) (h.ob k hk)), fun k hk => nG (row_lt h.row hk) (h.ob k hk),
    boxed_of h.y (kb h.y.lt h.gy), boxed_of h.a (kb h.a.lt h.ga), nG h.box.lt h.gp, nG h.y.lt h.gy, nG h.a.lt h.ga, h.np⟩

/-- one index more. -/
theorem IterAt.append {n₀ pp py pa l k : Nat} {pre : List Nat} {v v' : Value} {G : Nat → Prop} {wr w2 : World} {tobj tmp : Obj} (h : IterAt n₀ pp py pa l pre v G wr) (hG : ∀ j, G j → j < wr.heap.size) (hn : n₀ ≤ wr.heap.size)
    (hown : w2.ownsRow n₀ 3 1 v' (pre.length + 1) (pathVals pre ++ [.int .i64 k])) (hgrow : ((wr.alloc tobj).alloc tmp).grownBy w2 v.ownBlock) (hat : v'.ownBlock = v.ownBlock ∨ v'.ownBlock = some (wr.heap.size + 1 + 1)) :
    Boxed w2 pp 41 v ∧ IterAt n₀ pp py pa l (pre ++ [k]) v' G (w2.setCell ⟨pp, 0, none⟩ v') ∧ Spared G wr (w2.setCell ⟨pp, 0, none⟩ v') ∧ Below n₀ wr (w2.setCell ⟨pp, 0, none⟩ v') ∧
      w2.heap[wr.heap.size]? = some tobj ∧ wr.heap.size < w2.heap.size ∧ pp < wr.heap.size := by
  have e1 : 41 ≠ 3 := by decide
  have e2 : 128 ≠ 3 := by decide
  have e3 : 30 ≠ 3 := by decide
  have k1 := (h.box.alloc tobj).alloc tmp
  have k2 := (h.y.alloc tobj).alloc tmp
  have k3 := (h.a.alloc tobj).alloc tmp
  have kr := (h.row.alloc tobj).alloc tmp
  have b1 := k1.kept hgrow (k1.not_row e1 kr)
  have b2 := k2.kept hgrow (k2.not_row e2 kr)
  have b3 := k3.kept hgrow (k3.not_row e3 kr)
  have n2 : py ≠ pp := boxed_ne h.y h.box (by decide)
  have n3 : pa ≠ pp := boxed_ne h.a h.box (by decide)
  have hs := hgrow.size
  simp at hs
  have vlt : ∀ j, v.ownBlock = some j → j < wr.heap.size := fun j hj => row_lt h.row hj
  have tb : w2.heap[wr.heap.size]? = some tobj := by
    rw [hgrow.block _ (by simp; omega) (fun e => by have := vlt _ e.symm; omega)]
    rw [Below.heap_alloc _ _ _ (by simp)]
    exact World.alloc_heap_new _ _
  have ob' : ∀ j, v'.ownBlock = some j → ¬ G j := fun j hj => by
    rcases hat with e | e
    · exact h.ob j (by rw [← e]; exact hj)
    · rw [hj] at e
      intro hg
      have := hG j hg
      simp at e
      omega
  refine ⟨b1, ⟨b1.set v', by simpa using hown.kept (grownBy_setCell' w2 pp v') (.inr (b1.not_row e1 hown).symm), ob', b2.other n2 _, b3.other n3 _, h.gp, h.gy, h.ga, h.np⟩, ?_, ?_, tb, by omega, h.box.lt⟩
  · refine (((Spared.alloc hG tobj).trans (Spared.alloc (fun j hj => by have := hG j hj; simp; omega) tmp)).trans (Spared.grown (fun j hj => by have := hG j hj; simp; omega) hgrow h.ob)).trans (Spared.setCell _ h.gp _)
  · refine ((((Below.refl n₀ wr).alloc hn tobj).alloc (by simp; omega) tmp).grown hgrow (by simp; omega) (fun j hj => (h.row.lt j hj).1)).setCell h.np _

/-- the last index goes. -/
theorem IterAt.pop {n₀ pp py pa l k g cap : Nat} {pre : List Nat} {G : Nat → Prop} {W : World} (h : IterAt n₀ pp py pa l (pre ++ [k]) (.slice (some ⟨g, 0, none⟩) (pre.length + 1) cap) G W) :
    IterAt n₀ pp py pa l pre (.slice (some ⟨g, 0, none⟩) pre.length cap) G (W.setCell ⟨pp, 0, none⟩ (.slice (some ⟨g, 0, none⟩) pre.length cap)) := by
  have e1 : 41 ≠ 3 := by decide
  have n2 : py ≠ pp := boxed_ne h.y h.box (by decide)
  have n3 : pa ≠ pp := boxed_ne h.a h.box (by decide)
  have r : W.ownsRow n₀ 3 1 (.slice (some ⟨g, 0, none⟩) (pre.length + 1) cap) (pre.length + 1) (pathVals pre ++ [.int .i64 k]) := by simpa using h.row
  have r2 := ownsRow_pop (by simp) r
  exact ⟨h.box.set _, r2.kept (grownBy_setCell' W pp _) (.inr (h.box.not_row e1 r2).symm), fun j hj => h.ob j hj, h.y.other n2 _, h.a.other n3 _, h.gp, h.gy, h.ga, h.np⟩

theorem info_int : (Tryz.prog.info? 3).map (fun i => (i.zero, i.size, i.bytes)) = some (some (.int .i64 0), 1, 8) := by kernel_rfl
theorem path_lies {W : World} {base : Nat} {v : Value} {p : List Nat} (h : W.ownsRow base 3 1 v p.length (pathVals p)) : IntsLie W v (pathInts p) := by
  rcases h.2 with ⟨rfl, h0⟩ | ⟨g, cap, cur, rfl, hb, hg, hn, hcap, hs, ht⟩
  · exact .inl ⟨_, _, rfl, by simp [List.eq_nil_of_length_eq_zero h0]⟩
  · refine .inr ⟨g, 0, cap, by simp, by simpa using hn, ?_, fun k hk => ?_⟩
    · rcases Nat.lt_or_ge g W.heap.size with hlt | hge
      · exact hlt
      · rw [Array.getElem?_eq_none hge] at hg; cases hg
    · rw [Nat.zero_add]
      have hk' : k < p.length := by simpa using hk
      refine cell_of_block (T := 3) hg ?_
      have h1 : (cur.toList.take (p.length * 1))[k]? = (pathVals p)[k]? := by rw [ht]
      rw [List.getElem?_take, if_pos (by omega), List.getElem?_map, List.getElem?_eq_getElem hk'] at h1
      rw [List.getD_eq_getElem?_getD, List.getElem?_map, List.getElem?_eq_getElem hk', ← Array.getElem?_toList]
      simpa using h1

end Go.Proofs.YtcgedpfolloinaaGreat

namespace Go.Proofs.YtcgedpfolloinaaGreat
open Go.RowKit Go.Shelf

attribute [local go_sem] Oper.semAt_some

theorem seqAt_take_mem : ∀ {f : Fo} {k : Nat} {pre : List Nat} {i : Nat} {x : Vis}, x ∈ seqAt pre i (f.take k) → x ∈ seqAt pre i f
  | .nil, k, pre, i, x, h => by cases k <;> simpa [Fo.take] using h
  | .cons h0 k0 r0, 0, pre, i, x, h => by simp [Fo.take, seqAt] at h
  | .cons h0 k0 r0, k + 1, pre, i, x, h => by
    simp only [Fo.take, seqAt, List.mem_cons, List.mem_append] at h ⊢
    rcases h with h | h | h
    · exact .inl h
    · exact .inr (.inl h)
    · exact .inr (.inr (seqAt_take_mem h))
theorem seqAt_take_prefix : ∀ (f : Fo) (k : Nat) (pre : List Nat) (i : Nat), seqAt pre i (f.take k) <+: seqAt pre i f
  | .nil, k, pre, i => by cases k <;> simp [Fo.take, seqAt]
  | .cons h0 k0 r0, 0, pre, i => by simp [Fo.take, seqAt]
  | .cons h0 k0 r0, k + 1, pre, i => by
    simp only [Fo.take, seqAt]
    obtain ⟨t, ht⟩ := seqAt_take_prefix r0 k pre (i + 1)
    exact ⟨t, by rw [← ht]; simp⟩
theorem row_cap {W : World} {base g n cap : Nat} {e : TypeId} {xs : List Value} (h : W.ownsRow base e 1 (.slice (some ⟨g, 0, none⟩) n cap) n xs) : n ≤ cap := by
  rcases h.2 with ⟨h1, _⟩ | ⟨g', cap', cur, h1, _, _, h2, _⟩
  · simp at h1
  · simp only [Value.slice.injEq] at h1; omega
set_option maxRecDepth 100000 in
set_option maxHeartbeats 4000000 in
theorem all_iter (f0 : Fo) (w0 : World) (l pp py pa : Nat) (J : List Vis → (Nat → Prop) → World → Prop) (Jx : List Vis → World → Prop)
    (hJ : ∀ s G W W', J s G W → Spared G W W' → J s G W') (hJs : ∀ s G W, J s G W → ∀ k, G k → k < W.heap.size)
    (hY : ∀ m s x args G W1, J s G W1 → EncVis f0 w0 x args W1 → YieldAt Fence.wide m Tryz.prog l args W1 fun e W' =>
      (e = .returned (.bool true) ∧ ∃ G', (∀ k, G' k → G k ∨ W1.heap.size ≤ k) ∧ J (s ++ [x]) G' W' ∧ But G W1 W' ∧ Below w0.heap.size W1 W') ∨ (e = .returned (.bool false) ∧ Jx (s ++ [x]) W')) :
    ∀ (q : Nat) (f : Fo) (v : Value) (pre : List Nat) (s : List Vis) (pv : Value) (G : Nat → Prop) (W : World) (m : Nat), f.size ≤ q → pre.length + f.size ≤ 1000000 → Lies w0 v f → Below w0.heap.size w0 W →
      (∀ x ∈ seqAt pre 0 f, x ∈ seqAt [] 0 f0) → J s G W → IterAt w0.heap.size pp py pa l pre pv G W →
      CallsIn Fence.wide m Tryz.prog 124 #[v, .pointer (some ⟨pp, 0, none⟩), .pointer (some ⟨py, 0, none⟩), .pointer (some ⟨pa, 0, none⟩)] W fun e W' =>
        (e = .returned (.bool true) ∧ ∃ pv' G', (∀ k, G' k → G k ∨ W.heap.size ≤ k) ∧ J (s ++ seqAt pre 0 f) G' W' ∧ IterAt w0.heap.size pp py pa l pre pv' G' W' ∧ Below w0.heap.size W W') ∨
        (e = .returned (.bool false) ∧ ∃ s', s' <+: s ++ seqAt pre 0 f ∧ Jx s' W') := by
  intro q
  induction q using Nat.strongRecOn with
  | ind q ih =>
    intro f v pre s pv0 G W m hq hpl hl hbw hin hj hit
    have HL := Lib.hid hl
    have IH := Lib.hid ih
    have HY := Lib.hid hY
    have HJ := Lib.hid hJ
    have HJS := Lib.hid hJs
    have HIN := Lib.hid hin
    have hlen := lies_len hl
    obtain ⟨a, cap, rfl⟩ := lies_form hl
    clear hl ih hY hJ hJs hin
    have hkW : Below w0.heap.size W W := Below.refl _ _
    obtain ⟨i0, hi, hz0, hz1, hz2⟩ := info_parts info_int
    refine callsIn_of_wp Tryz.func124 rfl trivial ?_ rfl
    simp only [Tryz.ntmps124, List.size_toArray, List.length_cons, List.length_nil, Nat.reduceAdd, Nat.reduceSub, Array.replicate_succ, Array.replicate_zero, List.push_toArray, List.append_toArray, List.nil_append, List.cons_append]
    gi_wp2_with fail
    gi_loopw [10] (fun i wr => ∃ (k : Nat) (pv : Value) (G' : Nat → Prop), i = .int .i64 k ∧ k ≤ f.len ∧ (∀ j, G' j → G j ∨ W.heap.size ≤ j) ∧ J (s ++ seqAt pre 0 (f.take k)) G' wr ∧ IterAt w0.heap.size pp py pa l pre pv G' wr ∧ Below w0.heap.size W wr) (fun i _ => f.len - (intOf i).toNat)
    case atStart => exact ⟨0, pv0, G, rfl, Nat.zero_le _, fun _ h => .inl h, by simpa [Fo.take, seqAt] using hj, hit, hkW⟩
    case round =>
      obtain ⟨k, pv, G', rfl, hk, hG', hj', hit', hbr⟩ := hrel
      clear hj hit
      by_cases hlt : k < f.len
      · obtain ⟨b, o, cap', hs, hcap, -, hb, hrow⟩ := lies_row HL.out (by omega)
        simp only [Value.slice.injEq] at hs
        obtain ⟨rfl, -, rfl⟩ := hs
        obtain ⟨hd, ks, e, ⟨d0, d1, ⟨va, d2, ha⟩, d3, d4, d5⟩, vk, d6, hlk⟩ := row_get hrow hlt
        have hb0 : Below w0.heap.size w0 wr := hbw.trans hbr
        have c0 := (hb0.cell (p := ⟨b, o + k * 7, none⟩) hb).trans d0
        have c1 := (hb0.cell (p := ⟨b, o + k * 7 + 1, none⟩) hb).trans d1
        have c2 := (hb0.cell (p := ⟨b, o + k * 7 + 2, none⟩) hb).trans d2
        have c3 := (hb0.cell (p := ⟨b, o + k * 7 + 3, none⟩) hb).trans d3
        have c4 := (hb0.cell (p := ⟨b, o + k * 7 + 4, none⟩) hb).trans d4
        have c5 := (hb0.cell (p := ⟨b, o + k * 7 + 5, none⟩) hb).trans d5
        have c6 := (hb0.cell (p := ⟨b, o + k * 7 + 6, none⟩) hb).trans d6
        have hsz : w0.heap.size ≤ wr.heap.size := hb0.size
        have hbr' : b < wr.heap.size := by omega
        have HSEQ := Lib.hid (seqAt_take_succ pre 0 e)
        have HSEQ2 := Lib.hid (show ∀ x ∈ seqAt pre 0 (f.take (k + 1)), x ∈ seqAt pre 0 f from fun x hx => seqAt_take_mem hx)
        have hks := kid_size e
        obtain ⟨aa, ca, rfl⟩ := attrs_form ha
        obtain ⟨ak, ck, rfl⟩ := lies_form hlk
        have hppz := hit'.box.lt
        have hcp := hit'.box.cell
        have HJ2 := Lib.hid hj'
        have HG2 := Lib.hid hG'
        have HIT := Lib.hid hit'
        have HLK := Lib.hid hlk
        have HA := Lib.hid ha
        have HR := Lib.hid hit'.row
        have hpl' : pre.length + 1 ≤ 1000000 := by omega
        have hc5 : w0.heap.size ≤ wr.heap.size + 1 + 1 := by omega
        clear e hrow hj' hG' hit' hlk ha d0 d1 d2 d3 d4 d5 d6
        gi_wp2_with (gi_at_builtin; refine wpListIn_append_own_at _ rfl _ _ 41 rfl w0.heap.size 3 i0 (.int .i64 0) 1 8 Tryz.underlying41 hi hz0 hz1 hz2 rfl (by decide) _ _ _ rfl ((HR.out.alloc _).alloc _) ⟨wr.heap.size + 1, 0, none⟩ 1 1 [.int .i64 k] rfl rfl (by simpa using cell_one_new (wr.alloc _) (.int .i64 k) 3) (by simp [Value.oneCell']) (by unfold maxLen; omega) (by omega) (by simp; omega) ?stop)
        case stop =>
          intro v' w2 hown hgrow _ hat
          obtain ⟨g', capp, rfl⟩ := ownsRow_succ hown
          obtain ⟨q1, q2, q3, q4, q5, q6, q7⟩ := HIT.out.append (HJS.out _ _ _ HJ2.out) hsz hown hgrow (by simpa using hat)
          have hcp2 := q1.cell
          have hfp2 := q1.frozen
          have n2 := boxed_ne q2.y q2.box (by decide)
          have hcy2 := (boxed_of q2.y (Below.heap_setCell _ ⟨pp, 0, none⟩ _ _ n2).symm).cell
          have J3 := HJ.out _ _ _ _ HJ2.out q3
          have B3 : Below w0.heap.size w0 (w2.setCell ⟨pp, 0, none⟩ (.slice (some ⟨g', 0, none⟩) (pre.length + 1) capp)) := hb0.trans q4
          have E3 : EncVis f0 w0 ⟨pre ++ [k], hd, ks⟩ #[.slice (some ⟨g', 0, none⟩) (pre.length + 1) capp, .agg #[.int .i64 hd.k, .string ⟨hd.l.toArray⟩, .slice aa hd.ats.length ca, .int .i64 hd.n, .int .i64 hd.d, .string ⟨hd.x.toArray⟩, .slice ak ks.len ck]] (w2.setCell ⟨pp, 0, none⟩ (.slice (some ⟨g', 0, none⟩) (pre.length + 1) capp)) := ⟨_, _, rfl, (by simpa using path_lies q2.row), ⟨_, _, rfl, HA.out, HLK.out⟩, HIN.out _ (HSEQ2.out _ (by rw [HSEQ.out]; simp))⟩
          obtain ⟨fn, tmps, assign, body, hyy, hR⟩ := HY.out (m - 1) _ _ _ _ _ J3 E3
          have t0 : w2.cell? ⟨wr.heap.size, 0, none⟩ = _ := cell_of_block q5 rfl
          have t1 : w2.cell? ⟨wr.heap.size, 1, none⟩ = _ := cell_of_block q5 rfl
          have t2 : w2.cell? ⟨wr.heap.size, 2, none⟩ = _ := cell_of_block q5 rfl
          have t3 : w2.cell? ⟨wr.heap.size, 3, none⟩ = _ := cell_of_block q5 rfl
          have t4 : w2.cell? ⟨wr.heap.size, 4, none⟩ = _ := cell_of_block q5 rfl
          have t5 : w2.cell? ⟨wr.heap.size, 5, none⟩ = _ := cell_of_block q5 rfl
          have t6 : w2.cell? ⟨wr.heap.size, 6, none⟩ = _ := cell_of_block q5 rfl
          have nb1 : ¬ wr.heap.size = pp := by omega
          have nb2 : ¬ pp = wr.heap.size := by omega
          have n3 : ¬ py = pp := n2
          have n4 : ¬ pp = py := fun e => n2 e.symm
          have HQ2 := Lib.hid q2
          have HQ3 := Lib.hid q3
          have HQ4 := Lib.hid q4
          have HQ5 := Lib.hid q5
          have HJ3 := Lib.hid J3
          clear q1 q2 q3 q4 q5 hown hgrow hat J3 E3 n2
          gi_wp2_with fail
          refine ⟨fun h => (by cases h), hR.mono ?_⟩
          rintro e W4 (⟨rfl, G2, hG2, hJ4, hbut, hbl⟩ | ⟨rfl, hJx⟩)
          · have it4 := HQ2.out.round hbut hG2
            have hca4 := it4.a.cell
            have tb4 : W4.heap[wr.heap.size]? = w2.heap[wr.heap.size]? := (hbut.block _ (by simp; omega) (fun h => by have := HJS.out _ _ _ HJ2.out _ h; omega)).trans (Below.heap_setCell _ _ _ _ (by simpa using nb1))
            have t46 : W4.cell? ⟨wr.heap.size, 6, none⟩ = _ := cell_of_block (tb4.trans HQ5.out) rfl
            have B4 : Below w0.heap.size w0 W4 := B3.trans hbl
            have N4 := Lib.hid (IH.out ks.size (by omega) ks (.slice ak ks.len ck) (pre ++ [k]) _ _ G2 W4 (m - 1) (Nat.le_refl _) (by simp; omega) HLK.out B4 (fun x hx => HIN.out _ (HSEQ2.out _ (by rw [HSEQ.out]; simp at hx ⊢; exact .inr (.inr hx)))) hJ4 it4)
            clear hJ4 it4 hyy hR
            have HB4 := Lib.hid (HQ4.out.trans hbl)
            have HG4 := Lib.hid (show ∀ j, G2 j → G j ∨ W.heap.size ≤ j from fun j h => (hG2 j h).elim (HG2.out j) fun h' => .inr (by have := hbr.size; have := HQ4.out.size; omega))
            gi_wp2_with fail
            refine ⟨trivial, fun h => (by cases h), N4.out.mono ?_⟩
            rintro e W5 (⟨rfl, pv5, G3, hG3, hJ5, it5, hbl5⟩ | ⟨rfl, s', hs', hJx⟩)
            · have r5 : W5.ownsRow w0.heap.size 3 1 pv5 (pre.length + 1) (pathVals (pre ++ [k])) := by simpa using it5.row
              obtain ⟨g5, c5', rfl⟩ := ownsRow_succ r5
              have rc5 := row_cap r5
              have hp5 := it5.box.cell
              have hf5 := it5.box.frozen
              have HIP := Lib.hid it5.pop
              have HGP := Lib.hid it5.gp
              have HJ5 := Lib.hid hJ5
              have HB5 := Lib.hid (((hbr.trans HB4.out).trans hbl5).setCell (p := ⟨pp, 0, none⟩) it5.np (.slice (some ⟨g5, 0, none⟩) pre.length c5'))
              have HG5 := Lib.hid (show ∀ j, G3 j → G j ∨ W.heap.size ≤ j from fun j h => (hG3 j h).elim (HG4.out j) fun h' => .inr (by have := hbr.size; have := HB4.out.size; omega))
              clear hJ5 it5 N4 r5 hG3 hbl5
              gi_wp2_with fail
              go_roundw
              case rel => exact ⟨k + 1, _, G3, by go_num, by omega, HG5.out, HJ.out _ _ _ _ (by
                have := HJ5.out
                rw [HSEQ.out]
                simpa using this) (Spared.setCell _ HGP.out _), HIP.out, HB5.out⟩
              case measure => simp [intOf]; omega
            · have HXX := Lib.hid hJx
              have HP := Lib.hid hs'
              clear hJx hs' N4
              gi_wp2_with fail
              go_ret
              exact .inr ⟨rfl, s', HP.out.trans (by
                obtain ⟨t, ht⟩ := seqAt_take_prefix f (k + 1) pre 0
                exact ⟨t, by rw [← ht, HSEQ.out]; simp⟩), HXX.out⟩
          · have HXX := Lib.hid hJx
            clear hJx hyy hR
            gi_wp2_with fail
            refine ⟨fun _ h => (by cases h), ?_⟩
            gi_wp2_with fail
            go_ret
            exact .inr ⟨rfl, _, (by
                obtain ⟨t, ht⟩ := seqAt_take_prefix f (k + 1) pre 0
                exact ⟨seqAt (pre ++ [k]) 0 ks ++ t, by rw [← ht, HSEQ.out]; simp⟩), HXX.out⟩
      · have HX := Lib.hid (show f.take k = f by rw [show k = f.len by omega, Fo.take_len])
        have HJ2 := Lib.hid hj'
        have HG2 := Lib.hid hG'
        have HI2 := Lib.hid hit'
        clear hj' hG' hit'
        gi_wp2_with fail
        go_ret
        exact .inl ⟨rfl, pv, G', HG2.out, by rw [HX.out] at HJ2; exact HJ2.out, HI2.out, hbr⟩

/-- the forest's trees, as the statement takes them. -/
theorem trees_seq (f : Fo) (v : Value) (w0 : World) (bf : Nat) (hl : Lies w0 v f) (hs : f.size ≤ 1000000) :
    SeqOwn Tryz.prog 123 #[.pointer (some ⟨bf, 0, none⟩)] (EncVis f w0) (fun xs => xs = seqAt [] 0 f) (fun pre => pre <+: seqAt [] 0 f) w0.heap.size
      (fun W => Below w0.heap.size w0 W ∧ W.cell? ⟨bf, 0, none⟩ = some v) := by
  intro m l J Jx G W ⟨hb, hc⟩ hJ hJs hY _ h0
  have HL := Lib.hid hl
  have HY := Lib.hid hY
  have HJ := Lib.hid hJ
  have HJS := Lib.hid hJs
  have H0 := Lib.hid h0
  clear hl hY hJ hJs h0
  have hbf : bf < W.heap.size := blk_lt hc
  refine callsIn_of_wp Tryz.func123 rfl trivial ?_ rfl
  simp only [Tryz.ntmps123, List.size_toArray, List.length_cons, List.length_nil, Nat.reduceAdd, Nat.reduceSub, Array.replicate_succ, Array.replicate_zero, List.push_toArray, List.append_toArray, List.nil_append, List.cons_append]
  have hbf1 : bf < W.heap.size + 1 := by omega
  have hbf2 : bf < W.heap.size + 1 + 1 := by omega
  have n1 : ¬ bf = W.heap.size := by omega
  have n2 : ¬ bf = W.heap.size + 1 := by omega
  have n3 : ¬ bf = W.heap.size + 1 + 1 := by omega
  gi_wp2_with fail
  obtain ⟨W3, hW3⟩ : ∃ W3, ((W.alloc (.cells #[.func (.yield l) #[] #[]] 128)).alloc (.cells #[.slice none 0 0] 41)).alloc (.cells #[.func (.func 124) #[] #[.pointer (some ⟨W.heap.size + 1, 0, none⟩), .pointer (some ⟨W.heap.size, 0, none⟩), .pointer (some ⟨W.heap.size + 1 + 1, 0, none⟩)]] 30) = W3 := ⟨_, rfl⟩
  have hz := hb.size
  have hG := HJS.out _ _ _ H0.out
  have b1 : Boxed W3 W.heap.size 128 (.func (.yield l) #[] #[]) := by rw [← hW3]; exact ((Boxed.new W _ _).alloc _).alloc _
  have b2 : Boxed W3 (W.heap.size + 1) 41 (.slice none 0 0) := by
    rw [← hW3]
    have := Boxed.new (W.alloc (.cells #[.func (.yield l) #[] #[]] 128)) 41 (.slice none 0 0)
    rw [World.size_alloc] at this
    exact this.alloc _
  have b3 : Boxed W3 (W.heap.size + 1 + 1) 30 (.func (.func 124) #[] #[.pointer (some ⟨W.heap.size + 1, 0, none⟩), .pointer (some ⟨W.heap.size, 0, none⟩), .pointer (some ⟨W.heap.size + 1 + 1, 0, none⟩)]) := by
    rw [← hW3]
    have := Boxed.new ((W.alloc (.cells #[.func (.yield l) #[] #[]] 128)).alloc (.cells #[.slice none 0 0] 41)) 30 (.func (.func 124) #[] #[.pointer (some ⟨W.heap.size + 1, 0, none⟩), .pointer (some ⟨W.heap.size, 0, none⟩), .pointer (some ⟨W.heap.size + 1 + 1, 0, none⟩)])
    rw [World.size_alloc, World.size_alloc] at this
    exact this
  have sp : Spared G W W3 := by
    rw [← hW3]
    exact ((Spared.alloc hG _).trans (Spared.alloc (fun k hk => by have := hG k hk; simp; omega) _)).trans (Spared.alloc (fun k hk => by have := hG k hk; simp; omega) _)
  have bl : Below w0.heap.size W W3 := by
    rw [← hW3]
    exact (((Below.refl _ _).alloc hz _).alloc (by simp; omega) _).alloc (by simp; omega) _
  have it : IterAt w0.heap.size (W.heap.size + 1) W.heap.size (W.heap.size + 1 + 1) l [] (.slice none 0 0) G W3 :=
    ⟨b2, World.ownsRow_nil _ _ _ _, fun k hk => by simp [Value.ownBlock] at hk, b1, b3, fun h => by have := hG _ h; omega, fun h => by have := hG _ h; omega, fun h => by have := hG _ h; omega, by omega⟩
  rw [hW3]
  refine ⟨trivial, fun h => (by cases h), (all_iter f w0 l _ _ _ J Jx HJ.out HJS.out HY.out f.size f v [] [] _ G W3 (m - 1) (Nat.le_refl _) (by simpa using hs) HL.out (hb.trans bl) (fun x hx => hx) (HJ.out _ _ _ _ H0.out sp) it).mono ?_⟩
  rintro e W5 (⟨rfl, pv5, G3, hG3, hJ5, it5, hbl5⟩ | ⟨rfl, s', hs', hJx⟩)
  · have H5 := Lib.hid hJ5
    clear hJ5
    gi_wp2_with fail
    go_end0
    exact ⟨⟨_, rfl⟩, .inl ⟨_, _, rfl, by simpa using H5.out⟩⟩
  · have H5 := Lib.hid hJx
    have H6 := Lib.hid hs'
    clear hJx hs'
    gi_wp2_with fail
    go_end0
    exact ⟨⟨_, rfl⟩, .inr ⟨_, by simpa using H6.out, H5.out⟩⟩
end Go.Proofs.YtcgedpfolloinaaGreat

namespace Go.Proofs.YtcgedpfolloinaaGreat
open Go.RowKit Go.Shelf

attribute [local go_sem] Oper.semAt_some

def maxP (d : Nat) (xs : List Vis) : Nat := xs.foldl (fun d x => max d x.p.length) d
theorem maxP_snoc (d : Nat) (xs : List Vis) (x : Vis) : maxP d (xs ++ [x]) = max (maxP d xs) x.p.length := by unfold maxP; rw [List.foldl_append]; rfl
theorem maxP_app (d : Nat) (xs ys : List Vis) : maxP d (xs ++ ys) = maxP (maxP d xs) ys := by unfold maxP; rw [List.foldl_append]
theorem maxP_seq : ∀ (f : Fo) (pre : List Nat) (i d : Nat), pre.length ≤ d → maxP d (seqAt pre i f) = max d (pre.length + f.deep)
  | .nil, pre, i, d, h => by show d = _; simp [Fo.deep]; omega
  | .cons h ks r, pre, i, d, hd => by
    have e : seqAt pre i (.cons h ks r) = [⟨pre ++ [i], h, ks⟩] ++ (seqAt (pre ++ [i]) 0 ks ++ seqAt pre (i + 1) r) := rfl
    rw [e, maxP_app, maxP_app]
    have e1 : maxP d [⟨pre ++ [i], h, ks⟩] = max d (pre.length + 1) := by simp [maxP]
    rw [e1, maxP_seq ks (pre ++ [i]) 0 _ (by simp; omega), maxP_seq r pre (i + 1) _ (by omega)]
    simp only [List.length_append, List.length_cons, List.length_nil, Fo.deep]
    omega

theorem wpInW_scope {P : Program} {n : Nat} {c : Code} {Q : Exit → Act → World → Prop} {a : Act} {w : World} (h : c.wpIn Fence.wide n P (Exit.noGoto Q) a w) : (Code.scope c).wpIn Fence.wide n P Q a w :=
  wpIn_wide.2 (wp_scope_straight (wpIn_wide.1 h))

set_option maxHeartbeats 1000000 in
theorem trees_in (m : Nat) (a : Option Addr) (len cap : Nat) (w : World) :
    CallsIn Fence.wide m Tryz.prog 79 #[.slice a len cap] w fun e w' => e = .returned (.func (.func 123) #[] #[.pointer (some ⟨w.heap.size, 0, none⟩)]) ∧ w' = w.alloc (.cells #[.slice a len cap] 28) := by
  refine callsIn_of_wp Tryz.func79 rfl trivial ?_ rfl
  simp only [Tryz.ntmps79, List.size_toArray, List.length_cons, List.length_nil, Nat.reduceAdd, Nat.reduceSub, Array.replicate_succ, Array.replicate_zero, List.push_toArray, List.append_toArray, List.nil_append, List.cons_append]
  gi_wp2
  go_ret
  exact ⟨rfl, rfl⟩

theorem But.setCell {G : Nat → Prop} (W : World) {p : Addr} (hp : G p.block) (u : Value) : But G W (W.setCell p u) :=
  ⟨by simp [World.setCell], fun k _ hn => Below.heap_setCell _ _ _ _ (fun e => hn (e ▸ hp))⟩

/-- what the count holds behind so many trees. -/
structure MeasI (w : World) (pre : List Vis) (G : Nat → Prop) (W : World) : Prop where
  g : ∀ k, G k ↔ k < w.heap.size + 3
  c0 : W.cell? ⟨w.heap.size, 0, none⟩ = some (.int .i64 pre.length)
  c1 : W.cell? ⟨w.heap.size + 1, 0, none⟩ = some (.int .i64 (maxP 0 pre : Nat))
  f0 : W.frozen? ⟨w.heap.size, 0, none⟩ = false
  f1 : W.frozen? ⟨w.heap.size + 1, 0, none⟩ = false
  few : pre.length ≤ 400
  size : w.heap.size + 3 ≤ W.heap.size
  bel : Below w.heap.size w W
/-- and where there were too many. -/
structure MeasX (w : World) (pre : List Vis) (W : World) : Prop where
  c0 : W.cell? ⟨w.heap.size, 0, none⟩ = some (.int .i64 401)
  c1 : ∃ d : Int, W.cell? ⟨w.heap.size + 1, 0, none⟩ = some (.int .i64 d)
  f0 : W.frozen? ⟨w.heap.size, 0, none⟩ = false
  f1 : W.frozen? ⟨w.heap.size + 1, 0, none⟩ = false
  many : 400 < pre.length
  size : w.heap.size + 3 ≤ W.heap.size
  bel : Below w.heap.size w W

set_option maxRecDepth 100000 in
set_option maxHeartbeats 4000000 in
theorem measure_in (f : Fo) (v : Value) (w : World) (hl : Lies w v f) (hs : f.size ≤ 1000000) :
    CallsIn Fence.wide 4 Tryz.prog 81 #[v] w fun e W' => ∃ s d : Int, e = .returned (.tuple #[.int .i64 s, .int .i64 d]) ∧ (f.size ≤ 400 → s = f.size ∧ d = f.deep) ∧ (400 < f.size → s = 401) ∧ Below w.heap.size w W' := by
  obtain ⟨a, cap, rfl⟩ := lies_form hl
  refine callsIn_of_wp_marks Tryz.func81 rfl trivial ?_ rfl
  simp only [Tryz.ntmps81, List.size_toArray, List.length_cons, List.length_nil, Nat.reduceAdd, Nat.reduceSub, Array.replicate_succ, Array.replicate_zero, List.push_toArray, List.append_toArray, List.nil_append, List.cons_append]
  gi_wp2_with fail
  refine wpInW_scope ?_
  gi_step
  refine wpIn_label ?_
  gi_wp2_with (refine ⟨trivial, ?_⟩; gi_at_call 79; refine (trees_in _ _ _ _ _).mono ?_; rintro e w' ⟨rfl, rfl⟩)
  obtain ⟨W0, hW0⟩ : ∃ W0, ((w.alloc (.cells #[.int .i64 0] 3)).alloc (.cells #[.int .i64 0] 3)).alloc (.cells #[.slice a f.len cap] 28) = W0 := ⟨_, rfl⟩
  have hz0 : W0.heap.size = w.heap.size + 3 := by rw [← hW0]; simp
  have hB0 : Below w.heap.size w W0 := by rw [← hW0]; exact (((Below.refl _ w).alloc (Nat.le_refl _) _).alloc (by simp) _).alloc (by simp; omega) _
  have hN0 : MeasI w [] (fun k => k < w.heap.size + 3) W0 := by
    refine ⟨fun _ => Iff.rfl, ?_, ?_, ?_, ?_, by simp, by omega, hB0⟩ <;> (rw [← hW0]; simp [go_sem, maxP])
  have hc0 : W0.cell? ⟨w.heap.size + 1 + 1, 0, none⟩ = some (.slice a f.len cap) := by rw [← hW0]; simp [go_sem]
  rw [hW0]
  refine range_own (gf := 123) (lb := #[.pointer (some ⟨w.heap.size + 1 + 1, 0, none⟩)]) rfl (enters_of Tryz.func123 (by kernel_rfl) rfl)
    (trees_seq f (.slice a f.len cap) w (w.heap.size + 1 + 1) hl hs) (by omega) ?st (fun x args W h => by obtain ⟨_, _, rfl, _⟩ := h; rfl)
    (MeasI w) (fun c pre W => c = .exit 0 ∧ MeasX w pre W) (fun k => k < w.heap.size + 3) ?hI ?hIs ?hIx (fun k hk => by omega) hN0
    (fun x a' W => ∃ b0 c0 tv, a' = { tmps := #[.slice a f.len cap, undef, .pointer (some ⟨w.heap.size, 0, none⟩), .pointer (some ⟨w.heap.size + 1, 0, none⟩), .slice b0 x.p.length c0, .slice a f.len cap, .func (.func 123) #[] #[.pointer (some ⟨w.heap.size + 1 + 1, 0, none⟩)], .slice b0 x.p.length c0, tv, undef, undef, undef, undef, undef, undef, undef, undef, undef, undef, undef, undef, undef, undef], defers := [] })
    (fun x a' W l o o' _ _ h => h) ?assign ?body ?done ?stop
  case st =>
    intro o
    refine ⟨hB0.trans ((((Below.refl _ W0).alloc (Nat.le_refl _) _).alloc (by simp) _).mono hB0.size), ?_⟩
    simp [go_sem, hz0, hc0]
  case hI =>
    rintro s G W W' ⟨g, c0, c1, f0, f1, few, size, bel⟩ sp
    have b0 := sp.block _ ((g w.heap.size).2 (by omega))
    have b1 := sp.block _ ((g (w.heap.size + 1)).2 (by omega))
    exact ⟨g, (World.cell?_of_block (w := W) b0).trans c0, (World.cell?_of_block (w := W) b1).trans c1, (World.frozen?_of_block (w := W) b0).trans f0, (World.frozen?_of_block (w := W) b1).trans f1, few, Nat.le_trans size sp.size,
      bel.trans ⟨sp.os, sp.tape, sp.output, sp.size, fun k hk => sp.block k ((g k).2 (by omega))⟩⟩
  case hIs =>
    rintro s G W ⟨g, c0, c1, f0, f1, few, size, bel⟩ k hk
    have := (g k).1 hk; omega
  case hIx =>
    rintro c s W l o o' hl ho hc ⟨rfl, c0, ⟨d, c1⟩, f0, f1, many, size, bel⟩
    have hz := (Array.getElem?_eq_some_iff.1 ho).1
    have b0 : (W.putObj l o').heap[w.heap.size]? = W.heap[w.heap.size]? := World.putObj_heap_other (by omega)
    have b1 : (W.putObj l o').heap[w.heap.size + 1]? = W.heap[w.heap.size + 1]? := World.putObj_heap_other (by omega)
    exact ⟨rfl, (World.cell?_of_block (w := W) b0).trans c0, ⟨d, (World.cell?_of_block (w := W) b1).trans c1⟩, (World.frozen?_of_block (w := W) b0).trans f0, (World.frozen?_of_block (w := W) b1).trans f1, many, by simpa using size,
      bel.trans ⟨rfl, rfl, rfl, by simp, fun k hk => World.putObj_heap_other (by omega)⟩⟩
  case assign =>
    rintro n' l pre x args G W K hI ⟨pv, tv, rfl, hp, ht, hx⟩ hz hK
    obtain ⟨b0, c0, rfl⟩ := ints_form hp
    gi_wp2
    exact hK _ _ (But.refl _ _) (Below.refl _ _) hI ⟨b0, c0, tv, by simp⟩
  case body =>
    rintro n' l pre x a' G W ⟨g, c0, c1, f0, f1, few, size, bel⟩ ⟨b0, cc, tv, rfl⟩ hz
    have hG0 : G w.heap.size := (g _).2 (by omega)
    have hG1 : G (w.heap.size + 1) := (g _).2 (by omega)
    have HG := Lib.hid g
    have z0 : w.heap.size < W.heap.size := by omega
    have z1 : w.heap.size + 1 < W.heap.size := by omega
    have HM := Lib.hid (maxP_snoc 0 pre x)
    clear g
    by_cases h4 : pre.length = 400
    · have d4 : decide ((400 : Int) < (pre.length : Int) + 1) = true := by simp; omega
      have hlen : ((pre.length : Int) + 1) = 401 := by omega
      have HLN := Lib.hid hlen
      clear hlen h4
      gi_wp2
      exact ⟨But.setCell _ hG0 _, rfl, by rw [HLN.out]; exact (by simp (maxDischargeDepth := 8) [go_sem, *]), ⟨((maxP 0 pre : Nat) : Int), (by simp (maxDischargeDepth := 8) [go_sem, *])⟩, (by simp (maxDischargeDepth := 8) [go_sem, *]), (by simp (maxDischargeDepth := 8) [go_sem, *]), by simp; have := HLN.out; omega, (by first | assumption | (simp; done) | (simp; omega) | omega), by ((repeat' (first | exact Below.refl _ _ | assumption | refine Below.setCell ?_ ?_ _ | refine bdrewN ?_ _ | refine Below.drew ?_ | refine Below.alloc ?_ ?_ _ | refine bbehind ?_ (by assumption) ?_)); all_goals first | (simp; done) | (simp; omega) | omega)⟩
    · have d4 : decide ((400 : Int) < (pre.length : Int) + 1) = false := by simp; omega
      by_cases hm : maxP 0 pre < x.p.length
      · have dm : decide (((maxP 0 pre : Nat) : Int) < (x.p.length : Int)) = true := by simp; omega
        have HMM := Lib.hid (show maxP 0 (pre ++ [x]) = x.p.length by rw [HM.out]; omega)
        gi_wp2
        exact ⟨(But.setCell _ hG0 _).trans (But.setCell _ hG1 _), by ((repeat' (first | exact Below.refl _ _ | assumption | refine Below.setCell ?_ ?_ _ | refine bdrewN ?_ _ | refine Below.drew ?_ | refine Below.alloc ?_ ?_ _ | refine bbehind ?_ (by assumption) ?_)); all_goals first | (simp; done) | (simp; omega) | omega), G, fun k hk => .inl hk, HG.out, by simp [go_sem, *], by rw [HMM.out]; simp [go_sem, *], (by simp (maxDischargeDepth := 8) [go_sem, *]), (by simp (maxDischargeDepth := 8) [go_sem, *]), by simp; omega, (by first | assumption | (simp; done) | (simp; omega) | omega), by ((repeat' (first | exact Below.refl _ _ | assumption | refine Below.setCell ?_ ?_ _ | refine bdrewN ?_ _ | refine Below.drew ?_ | refine Below.alloc ?_ ?_ _ | refine bbehind ?_ (by assumption) ?_)); all_goals first | (simp; done) | (simp; omega) | omega)⟩
      · have dm : decide (((maxP 0 pre : Nat) : Int) < (x.p.length : Int)) = false := by simp; omega
        have HMM := Lib.hid (show maxP 0 (pre ++ [x]) = maxP 0 pre by rw [HM.out]; omega)
        gi_wp2
        exact ⟨But.setCell _ hG0 _, by ((repeat' (first | exact Below.refl _ _ | assumption | refine Below.setCell ?_ ?_ _ | refine bdrewN ?_ _ | refine Below.drew ?_ | refine Below.alloc ?_ ?_ _ | refine bbehind ?_ (by assumption) ?_)); all_goals first | (simp; done) | (simp; omega) | omega), G, fun k hk => .inl hk, HG.out, by simp [go_sem, *], by rw [HMM.out]; simp [go_sem, *], (by simp (maxDischargeDepth := 8) [go_sem, *]), (by simp (maxDischargeDepth := 8) [go_sem, *]), by simp; omega, (by first | assumption | (simp; done) | (simp; omega) | omega), by ((repeat' (first | exact Below.refl _ _ | assumption | refine Below.setCell ?_ ?_ _ | refine bdrewN ?_ _ | refine Below.drew ?_ | refine Below.alloc ?_ ?_ _ | refine bbehind ?_ (by assumption) ?_)); all_goals first | (simp; done) | (simp; omega) | omega)⟩
  case done =>
    rintro D ys G W hD rfl ⟨g, c0, c1, f0, f1, few, size, bel⟩ hK
    rw [seqAt_len] at c0 few
    rw [maxP_seq _ _ _ _ (by simp), show max 0 (([] : List Nat).length + f.deep) = f.deep by simp] at c1
    gi_wp2
    gi_region
    gi_wp2
    rw [Exit.noGoto_ret]
    have hK2 : (((W.setCell ⟨w.heap.size, 0, none⟩ (.int .i64 f.size)).setCell ⟨w.heap.size + 1, 0, none⟩ (.int .i64 f.deep)).drew).heap[D]? = some (.deferred (some [])) := (((KeepsOthers.setCell W _ _).trans (KeepsOthers.setCell _ _ _)).trans (KeepsOthers.drew _)).same D _ hK rfl
    refine ⟨by simp, .inl ⟨_, _, rfl, run_takeDeferred hK2, ?_⟩⟩
    have hb2 := belowK_b (w := W0) (Nat.le_refl _) _ D _ (.deferred none) (by simpa using hD) hK2 rfl rfl
    have v0 := hb2.cell (p := ⟨w.heap.size, 0, none⟩) (by show w.heap.size < _; omega)
    have v1 := hb2.cell (p := ⟨w.heap.size + 1, 0, none⟩) (by show w.heap.size + 1 < _; omega)
    have hbx : Below w.heap.size w (((W.setCell ⟨w.heap.size, 0, none⟩ (.int .i64 f.size)).setCell ⟨w.heap.size + 1, 0, none⟩ (.int .i64 f.deep)).drew) := by ((repeat' (first | exact Below.refl _ _ | assumption | refine Below.setCell ?_ ?_ _ | refine bdrewN ?_ _ | refine Below.drew ?_ | refine Below.alloc ?_ ?_ _ | refine bbehind ?_ (by assumption) ?_)); all_goals first | (simp; done) | (simp; omega) | omega)
    have hbb := hbx.trans (hb2.mono (by omega))
    have z0 : w.heap.size < W.heap.size := by omega
    have z1 : w.heap.size + 1 < W.heap.size := by omega
    generalize (((W.setCell ⟨w.heap.size, 0, none⟩ (.int .i64 f.size)).setCell ⟨w.heap.size + 1, 0, none⟩ (.int .i64 f.deep)).drew).putObj D (.deferred none) = Wf at v0 v1 hbb ⊢
    have u0 : Wf.cell? ⟨w.heap.size, 0, none⟩ = some (.int .i64 f.size) := by rw [v0]; exact (by simp (maxDischargeDepth := 8) [go_sem, *])
    have u1 : Wf.cell? ⟨w.heap.size + 1, 0, none⟩ = some (.int .i64 f.deep) := by rw [v1]; exact (by simp (maxDischargeDepth := 8) [go_sem, *])
    exact ⟨.tuple #[.int .i64 f.size, .int .i64 f.deep], by simp (maxDischargeDepth := 8) [results, go_sem, Tryz.results81, u0, u1], _, _, rfl, fun _ => ⟨rfl, rfl⟩, fun h => by omega, hbb⟩
  case stop =>
    rintro D c pre W hD hp ⟨rfl, c0, ⟨d, c1⟩, f0, f1, many, size, bel⟩ hK
    have hbig : 400 < f.size := by
      have := hp.length_le
      rw [seqAt_len] at this; omega
    gi_wp2
    gi_region
    gi_wp2
    rw [Exit.noGoto_ret]
    have hK2 : (((W.setCell ⟨w.heap.size, 0, none⟩ (.int .i64 401)).setCell ⟨w.heap.size + 1, 0, none⟩ (.int .i64 d)).drew).heap[D]? = some (.deferred (some [])) := (((KeepsOthers.setCell W _ _).trans (KeepsOthers.setCell _ _ _)).trans (KeepsOthers.drew _)).same D _ hK rfl
    refine ⟨by simp, .inl ⟨_, _, rfl, run_takeDeferred hK2, ?_⟩⟩
    have hb2 := belowK_b (w := W0) (Nat.le_refl _) _ D _ (.deferred none) (by simpa using hD) hK2 rfl rfl
    have v0 := hb2.cell (p := ⟨w.heap.size, 0, none⟩) (by show w.heap.size < _; omega)
    have v1 := hb2.cell (p := ⟨w.heap.size + 1, 0, none⟩) (by show w.heap.size + 1 < _; omega)
    have hbx : Below w.heap.size w (((W.setCell ⟨w.heap.size, 0, none⟩ (.int .i64 401)).setCell ⟨w.heap.size + 1, 0, none⟩ (.int .i64 d)).drew) := by ((repeat' (first | exact Below.refl _ _ | assumption | refine Below.setCell ?_ ?_ _ | refine bdrewN ?_ _ | refine Below.drew ?_ | refine Below.alloc ?_ ?_ _ | refine bbehind ?_ (by assumption) ?_)); all_goals first | (simp; done) | (simp; omega) | omega)
    have hbb := hbx.trans (hb2.mono (by omega))
    have z0 : w.heap.size < W.heap.size := by omega
    have z1 : w.heap.size + 1 < W.heap.size := by omega
    generalize (((W.setCell ⟨w.heap.size, 0, none⟩ (.int .i64 401)).setCell ⟨w.heap.size + 1, 0, none⟩ (.int .i64 d)).drew).putObj D (.deferred none) = Wf at v0 v1 hbb ⊢
    have u0 : Wf.cell? ⟨w.heap.size, 0, none⟩ = some (.int .i64 401) := by rw [v0]; exact (by simp (maxDischargeDepth := 8) [go_sem, *])
    have u1 : Wf.cell? ⟨w.heap.size + 1, 0, none⟩ = some (.int .i64 d) := by rw [v1]; exact (by simp (maxDischargeDepth := 8) [go_sem, *])
    exact ⟨.tuple #[.int .i64 401, .int .i64 d], by simp (maxDischargeDepth := 8) [results, go_sem, Tryz.results81, u0, u1], _, _, rfl, fun h => by omega, fun _ => rfl, hbb⟩
end Go.Proofs.YtcgedpfolloinaaGreat

namespace Go.Proofs.YtcgedpfolloinaaGreat
open Go.RowKit Go.Shelf

attribute [local go_sem] Oper.semAt_some

theorem measure_any (f : Fo) (v : Value) (w : World) (hl : Lies w v f) (hs : f.size ≤ 1000000) :
    Calls Tryz.prog 81 #[v] w fun e W' => ∃ s d : Int, e = .returned (.tuple #[.int .i64 s, .int .i64 d]) ∧ (f.size ≤ 400 → s = f.size ∧ d = f.deep) ∧ (400 < f.size → s = 401) ∧ Below w.heap.size w W' :=
  callsIn_wide.1 (measure_in f v w hl hs)

def bndErr (f : Fo) : Int := if 400 < f.size then 4 else if 40 < f.deep then 8 else 0
set_option maxHeartbeats 1000000 in
theorem checkBounds_any (f : Fo) (v : Value) (w : World) (hl : Lies w v f) (hs : f.size ≤ 1000000) :
    Calls Tryz.prog 78 #[v] w fun e W' => e = .returned (.int .i64 (bndErr f)) ∧ Below w.heap.size w W' := by
  have M := Lib.hid (measure_any f v w hl hs)
  have HE := Lib.hid (show bndErr f = if 400 < f.size then 4 else if 40 < f.deep then 8 else 0 from rfl)
  obtain ⟨a, cap, rfl⟩ := lies_form hl
  clear hl
  go_enter Tryz.func78, Tryz.ntmps78
  go_wp2_with fail
  refine M.out.mono ?_; rintro e w1 ⟨s, d, rfl, h1, h2, hb1⟩
  by_cases h4 : 400 < f.size
  · obtain rfl := h2 h4
    clear h1 h2
    go_wp2_with fail
    go_ret
    exact ⟨ret_int' (by rw [HE.out, if_pos h4]), hb1⟩
  · obtain ⟨rfl, rfl⟩ := h1 (by omega)
    have d4 : decide ((400 : Int) < (f.size : Int)) = false := by simp; omega
    clear h1 h2
    by_cases h8 : 40 < f.deep
    · have d8 : decide ((40 : Int) < (f.deep : Int)) = true := by simp; omega
      go_wp2_with fail
      go_ret
      exact ⟨ret_int' (by rw [HE.out, if_neg h4, if_pos h8]), hb1⟩
    · have d8 : decide ((40 : Int) < (f.deep : Int)) = false := by simp; omega
      go_wp2_with fail
      go_ret
      exact ⟨ret_int' (by rw [HE.out, if_neg h4, if_neg h8]), hb1⟩

/-- the error of one tree. -/
def visErr (x : Vis) : Int := if headErr x.h ≠ 0 then headErr x.h else if x.h.k ≠ 0 ∧ x.ks.len ≠ 0 then 1 else 0
def firstV : List Vis → Int
  | [] => 0
  | x :: xs => if visErr x ≠ 0 then visErr x else firstV xs
theorem firstV_app : ∀ xs ys : List Vis, firstV (xs ++ ys) = if firstV xs ≠ 0 then firstV xs else firstV ys
  | [], ys => by simp [firstV]
  | x :: xs, ys => by
    simp only [List.cons_append, firstV, firstV_app xs ys]
    by_cases h : visErr x = 0 <;> simp [h]
theorem firstV_seq : ∀ (f : Fo) (pre : List Nat) (i : Nat), firstV (seqAt pre i f) = headsErr f
  | .nil, _, _ => rfl
  | .cons h ks r, pre, i => by
    have e : seqAt pre i (.cons h ks r) = ⟨pre ++ [i], h, ks⟩ :: (seqAt (pre ++ [i]) 0 ks ++ seqAt pre (i + 1) r) := rfl
    rw [e, firstV, firstV_app, firstV_seq ks, firstV_seq r, headsErr]
    unfold visErr
    by_cases h1 : headErr h = 0
    · by_cases h2 : h.k ≠ 0 ∧ ks.len ≠ 0
      · simp [h1, h2]
      · simp [h1, h2]
    · simp [h1]
theorem foFit_mem : ∀ {f : Fo} {pre : List Nat} {i : Nat} {x : Vis}, foFit f → x ∈ seqAt pre i f → HdFit x.h
  | .nil, _, _, _, _, h => by simp [seqAt] at h
  | .cons h ks r, pre, i, x, hf, hx => by
    simp only [seqAt, List.mem_cons, List.mem_append] at hx
    rcases hx with rfl | hx | hx
    · exact hf.1
    · exact foFit_mem hf.2.1 hx
    · exact foFit_mem hf.2.2 hx

theorem foErr_eq (f : Fo) : foErr f = if bndErr f ≠ 0 then bndErr f else headsErr f := by unfold foErr bndErr; split <;> simp; split <;> simp

set_option maxRecDepth 100000 in
set_option maxHeartbeats 1000000 in
theorem check_bnd (f : Fo) (v : Value) (w : World) (hl : Lies w v f) (hs : Small f) (hb : bndErr f ≠ 0) :
    Calls Tryz.prog 19 #[v] w fun e W' => e = .returned (.int .i64 (foErr f)) ∧ Below w.heap.size w W' := by
  have hsz := hs.size
  have B := Lib.hid (fun w1 (hw : Below w.heap.size w w1) => checkBounds_any f v w1 (lies_below hl hw) (by omega))
  have HE := Lib.hid ((foErr_eq f).trans (if_pos hb))
  obtain ⟨a, cap, rfl⟩ := lies_form hl
  generalize bndErr f = be at *
  have hb0 : (be != 0) = true := by simpa using hb
  clear hl hb
  go_enter Tryz.func19, Tryz.ntmps19
  go_wp2_with fail
  refine (B.out _ ((Below.refl _ _).alloc (Nat.le_refl _) _)).mono ?_; rintro e w1 ⟨rfl, hb1⟩; obtain ⟨hc1, hf1⟩ := bcell hb1; have hs1 := hb1.size; (try simp at hs1); (try have hz10 : w.heap.size < w1.heap.size := by omega); (try have hz11 : w.heap.size + 1 < w1.heap.size := by omega); (try have hz12 : w.heap.size + 1 + 1 < w1.heap.size := by omega); (try have hz13 : w.heap.size + 1 + 1 + 1 < w1.heap.size := by omega); (try have hz14 : w.heap.size + 1 + 1 + 1 + 1 < w1.heap.size := by omega); (try have hz15 : w.heap.size + 1 + 1 + 1 + 1 + 1 < w1.heap.size := by omega)
  go_wp2_with fail
  rw [HE.out]
  refine bodyPost_ret (v := .int .i64 be) (by simp (maxDischargeDepth := 8) [results, Tryz.results19, go_sem, *]) rfl ?_
  exact ⟨rfl, by ((repeat' (first | exact Below.refl _ _ | assumption | refine Below.setCell ?_ ?_ _ | refine bdrewN ?_ _ | refine Below.drew ?_ | refine Below.alloc ?_ ?_ _ | refine bbehind ?_ (by assumption) ?_)); all_goals first | (simp; done) | (simp; omega) | omega)⟩

/-- what the search for an error holds behind so many trees. -/
structure ChkI (w : World) (R : Nat) (pre : List Vis) (G : Nat → Prop) (W : World) : Prop where
  g : ∀ k, G k ↔ k < R
  c0 : W.cell? ⟨w.heap.size, 0, none⟩ = some (.int .i64 0)
  f0 : W.frozen? ⟨w.heap.size, 0, none⟩ = false
  ok : firstV pre = 0
  size : R ≤ W.heap.size
  bel : Below w.heap.size w W
structure ChkX (w : World) (R : Nat) (pre : List Vis) (W : World) : Prop where
  c0 : W.cell? ⟨w.heap.size, 0, none⟩ = some (.int .i64 (firstV pre))
  err : firstV pre ≠ 0
  size : R ≤ W.heap.size
  bel : Below w.heap.size w W

theorem ChkI.spared {w W W' : World} {R : Nat} {pre : List Vis} {G : Nat → Prop} (h : ChkI w R pre G W) (sp : Spared G W W') (hR : w.heap.size < R) : ChkI w R pre G W' := by
  obtain ⟨g, c0, f0, ok, size, bel⟩ := h
  have b0 := sp.block _ ((g w.heap.size).2 (by omega))
  exact ⟨g, (World.cell?_of_block (w := W) b0).trans c0, (World.frozen?_of_block (w := W) b0).trans f0, ok, Nat.le_trans size sp.size,
    bel.trans ⟨sp.os, sp.tape, sp.output, sp.size, fun k hk => sp.block k ((g k).2 (by omega))⟩⟩
theorem firstV_snoc {pre : List Vis} {x : Vis} (h : firstV pre = 0) : firstV (pre ++ [x]) = visErr x := by
  rw [firstV_app, if_neg (by simpa using h)]; simp [firstV]; exact fun h => h.symm

set_option maxRecDepth 100000 in
set_option maxHeartbeats 4000000 in
theorem check_in (f : Fo) (v : Value) (w : World) (hl : Lies w v f) (hs : Small f) (hb : bndErr f = 0) :
    CallsIn Fence.wide 4 Tryz.prog 19 #[v] w fun e W' => e = .returned (.int .i64 (foErr f)) ∧ Below w.heap.size w W' := by
  have hsz := hs.size
  have B := Lib.hid (fun w1 (hw : Below w.heap.size w w1) => checkBounds_any f v w1 (lies_below hl hw) (by omega))
  have HE := Lib.hid ((foErr_eq f).trans (if_neg (by simpa using hb)))
  rw [hb] at B
  clear hb
  obtain ⟨a, cap, rfl⟩ := lies_form hl
  refine callsIn_of_wp_marks Tryz.func19 rfl trivial ?_ rfl
  simp only [Tryz.ntmps19, List.size_toArray, List.length_cons, List.length_nil, Nat.reduceAdd, Nat.reduceSub, Array.replicate_succ, Array.replicate_zero, List.push_toArray, List.append_toArray, List.nil_append, List.cons_append]
  gi_wp2_with (first | (refine ⟨trivial, ?_⟩; gi_at_call 78; refine (callsIn_wide.2 (B.out _ ((Below.refl _ _).alloc (Nat.le_refl _) _))).mono ?_; rintro e w1 ⟨rfl, hb1⟩; obtain ⟨hc1, hf1⟩ := bcell hb1; have hs1 := hb1.size; (try simp at hs1); have hz10 : w.heap.size < w1.heap.size := by omega) | (refine ⟨trivial, ?_⟩; gi_at_call 79; refine (trees_in _ _ _ _ _).mono ?_; rintro e w' ⟨rfl, rfl⟩))
  obtain ⟨W0, hW0⟩ : ∃ W0, w1.alloc (.cells #[.slice a f.len cap] 28) = W0 := ⟨_, rfl⟩
  have hz0 : W0.heap.size = w1.heap.size + 1 := by rw [← hW0]; simp
  have hB0 : Below w.heap.size w W0 := by
    rw [← hW0]
    exact (((Below.refl _ w).alloc (Nat.le_refl _) _).trans (hb1.mono (by simp))).alloc (by omega) _
  have hN0 : ChkI w (w1.heap.size + 1) [] (fun k => k < w1.heap.size + 1) W0 := by
    have nz : ¬ w.heap.size = w1.heap.size := by omega
    refine ⟨fun _ => Iff.rfl, ?_, ?_, rfl, by omega, hB0⟩ <;> (rw [← hW0]; clear hW0 hB0 hz0; simp [go_sem, *])
  have hc0 : W0.cell? ⟨w1.heap.size, 0, none⟩ = some (.slice a f.len cap) := by rw [← hW0]; simp [go_sem]
  rw [hW0]
  refine range_own (gf := 123) (lb := #[.pointer (some ⟨w1.heap.size, 0, none⟩)]) rfl (enters_of Tryz.func123 (by kernel_rfl) rfl)
    (trees_seq f (.slice a f.len cap) w w1.heap.size hl (by omega)) (by omega) ?st (fun x args W h => by obtain ⟨_, _, rfl, _⟩ := h; rfl)
    (ChkI w (w1.heap.size + 1)) (fun c pre W => c = .ret ∧ ChkX w (w1.heap.size + 1) pre W) (fun k => k < w1.heap.size + 1) ?hI ?hIs ?hIx (fun k hk => by omega) hN0
    (fun x a' W => ∃ Bx pv tv aa ca ak ck, w1.heap.size + 1 ≤ Bx ∧ AttrsLie w (.slice aa x.h.ats.length ca) x.h.ats ∧ HdFit x.h ∧ W.heap[Bx]? = some (.cells #[.int .i64 x.h.k, .string ⟨x.h.l.toArray⟩, .slice aa x.h.ats.length ca, .int .i64 x.h.n, .int .i64 x.h.d, .string ⟨x.h.x.toArray⟩, .slice ak x.ks.len ck] 43 (0, 0)) ∧
      a' = { tmps := #[.slice a f.len cap, undef, .pointer (some ⟨w.heap.size, 0, none⟩), .int .i64 0, undef, .pointer (some ⟨Bx, 0, none⟩), undef, .slice a f.len cap, .int .i64 0, .int .i64 0, .bool false, undef, .slice a f.len cap, .func (.func 123) #[] #[.pointer (some ⟨w1.heap.size, 0, none⟩)], pv, tv, undef, undef, undef, undef, undef, undef, undef, undef, undef, undef, undef, undef, undef, undef, undef, undef], defers := [] })
    (fun x a' W l o o' hl ho h => by
      obtain ⟨Bx, pv, tv, aa, ca, ak, ck, h1, h2, h3, h4, h5⟩ := h
      exact ⟨Bx, pv, tv, aa, ca, ak, ck, h1, h2, h3, (World.putObj_heap_other (fun e => by rw [e, hl] at h4; cases h4; cases ho)).trans h4, h5⟩) ?assign ?body ?done ?stop
  case st =>
    intro o
    refine ⟨hB0.trans ((((Below.refl _ W0).alloc (Nat.le_refl _) _).alloc (by simp) _).mono hB0.size), ?_⟩
    simp [go_sem, hz0, hc0]
  case hI =>
    exact fun s G W W' h sp => h.spared sp (by omega)
  case hIs =>
    rintro s G W ⟨g, c0, f0, ok, size, bel⟩ k hk
    have := (g k).1 hk; omega
  case hIx =>
    rintro c s W l o o' hl ho hc ⟨rfl, c0, err, size, bel⟩
    have b0 : (W.putObj l o').heap[w.heap.size]? = W.heap[w.heap.size]? := World.putObj_heap_other (by omega)
    exact ⟨rfl, (World.cell?_of_block (w := W) b0).trans c0, err, by simpa using size,
      bel.trans ⟨rfl, rfl, rfl, by simp, fun k hk => World.putObj_heap_other (by omega)⟩⟩
  case assign =>
    rintro n' l pre x args G W K hI ⟨pv, tv, rfl, hp, ⟨va, kv, rfl, ha, hk⟩, hx⟩ hz hK
    obtain ⟨aa, ca, rfl⟩ := attrs_form ha
    obtain ⟨ak, ck, rfl⟩ := lies_form hk
    have HI := Lib.hid hI
    have HA := Lib.hid ha
    have HX := Lib.hid (foFit_mem hs.fit hx)
    clear hI ha hx hp hk
    gi_wp2
    have hal : Below W.heap.size W (W.alloc (.cells #[.int .i64 x.h.k, .string ⟨x.h.l.toArray⟩, .slice aa x.h.ats.length ca, .int .i64 x.h.n, .int .i64 x.h.d, .string ⟨x.h.x.toArray⟩, .slice ak x.ks.len ck] 43)) := (Below.refl _ W).alloc (Nat.le_refl _) _
    have hsW := HI.out.size
    exact hK _ _ (But.of_below hal) (hal.mono (by omega)) (HI.out.spared (Spared.alloc (fun k hk => by have := (HI.out.g k).1 hk; omega) _) (by omega)) ⟨W.heap.size, pv, _, aa, ca, ak, ck, by omega, HA.out, HX.out, World.alloc_heap_new _ _, rfl⟩
  case body =>
    rintro n' l pre x a' G W ⟨g, c0, f0, ok, size, bel⟩ ⟨Bx, pv, tv, aa, ca, ak, ck, hBx, ha, hf, hbx, rfl⟩ hz
    have hG0 : G w.heap.size := (g _).2 (by omega)
    have HG := Lib.hid g
    have hBz : Bx < W.heap.size := (Array.getElem?_eq_some_iff.1 hbx).1
    have t0 : W.cell? ⟨Bx, 0, none⟩ = _ := cell_of_block hbx rfl
    have t1 : W.cell? ⟨Bx, 1, none⟩ = _ := cell_of_block hbx rfl
    have t2 : W.cell? ⟨Bx, 2, none⟩ = _ := cell_of_block hbx rfl
    have t3 : W.cell? ⟨Bx, 3, none⟩ = _ := cell_of_block hbx rfl
    have t4 : W.cell? ⟨Bx, 4, none⟩ = _ := cell_of_block hbx rfl
    have t5 : W.cell? ⟨Bx, 5, none⟩ = _ := cell_of_block hbx rfl
    have t6 : W.cell? ⟨Bx, 6, none⟩ = _ := cell_of_block hbx rfl
    have GH := Lib.hid (thead_any x.h (.slice aa x.h.ats.length ca) W (attrs_below ha bel) hf)
    have HS := Lib.hid (firstV_snoc (x := x) ok)
    have HV := Lib.hid (show visErr x = if headErr x.h ≠ 0 then headErr x.h else if x.h.k ≠ 0 ∧ x.ks.len ≠ 0 then 1 else 0 from rfl)
    have z0 : w.heap.size < W.heap.size := by omega
    have ne0 : ¬ Bx = w.heap.size := by omega
    have ne1 : ¬ w.heap.size = Bx := by omega
    clear g hbx ha hf ok
    generalize headErr x.h = eh at *
    generalize hkk : x.h.k = kk at *
    generalize hkl : x.ks.len = nk at *
    clear hkk hkl
    by_cases h1 : eh = 0
    · have b1 : (eh != 0) = false := by simpa using h1
      by_cases h2 : kk ≠ 0 ∧ nk ≠ 0
      · have b2 : (kk != 0) = true := by simpa using h2.1
        have b3 : decide ((0 : Int) < (nk : Int)) = true := by simp; omega
        have b4 : decide (0 < nk) = true := by simp; omega
        have HX := Lib.hid (HS.out.trans (HV.out.trans (by rw [if_neg (by simpa using h1), if_pos h2])))
        clear h1 h2
        gi_wp2_with fail
        refine ⟨trivial, fun h => (by cases h), (CallsIn.inRound l (callsIn_wide.2 GH.out)).mono ?_⟩
        rintro e w2 ⟨rfl, hb2⟩
        obtain ⟨hc2, hf2⟩ := bcell hb2
        have hs2 := hb2.size
        have z2 : w.heap.size < w2.heap.size := by omega
        gi_wp2_with fail
        exact ⟨(But.of_below hb2).trans (But.setCell _ hG0 _), rfl, by rw [HX.out]; exact (by simp (maxDischargeDepth := 8) [go_sem, *]), by rw [HX.out]; decide, by simp; omega, by ((repeat' (first | exact Below.refl _ _ | assumption | refine Below.setCell ?_ ?_ _ | refine bdrewN ?_ _ | refine Below.drew ?_ | refine Below.alloc ?_ ?_ _ | refine bbehind ?_ (by assumption) ?_)); all_goals first | (simp; done) | (simp; omega) | omega)⟩
      · have HX := Lib.hid (HS.out.trans (HV.out.trans (by rw [if_neg (by simpa using h1), if_neg h2])))
        rcases (show (kk != 0) = false ∨ ((kk != 0) = true ∧ nk = 0) by
          by_cases hk0 : kk = 0
          · exact .inl (by simpa using hk0)
          · exact .inr ⟨by simpa using hk0, by omega⟩) with b2 | ⟨b2, rfl⟩
        all_goals
          clear h1 h2
          gi_wp2_with fail
          refine ⟨trivial, fun h => (by cases h), (CallsIn.inRound l (callsIn_wide.2 GH.out)).mono ?_⟩
          rintro e w2 ⟨rfl, hb2⟩
          obtain ⟨hc2, hf2⟩ := bcell hb2
          have hs2 := hb2.size
          have z2 : w.heap.size < w2.heap.size := by omega
          gi_wp2_with fail
          exact ⟨But.of_below hb2, hb2.mono (by omega), G, fun k hk => .inl hk, HG.out, (by simp (maxDischargeDepth := 8) [go_sem, *]), (by simp (maxDischargeDepth := 8) [go_sem, *]), HX.out, by omega, by ((repeat' (first | exact Below.refl _ _ | assumption | refine Below.setCell ?_ ?_ _ | refine bdrewN ?_ _ | refine Below.drew ?_ | refine Below.alloc ?_ ?_ _ | refine bbehind ?_ (by assumption) ?_)); all_goals first | (simp; done) | (simp; omega) | omega)⟩
    · have b1 : (eh != 0) = true := by simpa using h1
      have HX := Lib.hid (HS.out.trans (HV.out.trans (by rw [if_pos (by simpa using h1)])))
      have H1 := Lib.hid h1
      clear h1
      gi_wp2_with fail
      refine ⟨trivial, fun h => (by cases h), (CallsIn.inRound l (callsIn_wide.2 GH.out)).mono ?_⟩
      rintro e w2 ⟨rfl, hb2⟩
      obtain ⟨hc2, hf2⟩ := bcell hb2
      have hs2 := hb2.size
      have z2 : w.heap.size < w2.heap.size := by omega
      gi_wp2_with fail
      exact ⟨(But.of_below hb2).trans (But.setCell _ hG0 _), rfl, by rw [HX.out]; exact (by simp (maxDischargeDepth := 8) [go_sem, *]), by rw [HX.out]; exact H1.out, by simp; omega, by ((repeat' (first | exact Below.refl _ _ | assumption | refine Below.setCell ?_ ?_ _ | refine bdrewN ?_ _ | refine Below.drew ?_ | refine Below.alloc ?_ ?_ _ | refine bbehind ?_ (by assumption) ?_)); all_goals first | (simp; done) | (simp; omega) | omega)⟩
  case done =>
    rintro D ys G W hD rfl ⟨g, c0, f0, ok, size, bel⟩ hK
    rw [firstV_seq] at ok
    have HO := Lib.hid (HE.out.trans ok)
    gi_wp2
    have hK2 : (W.setCell ⟨w.heap.size, 0, none⟩ (.int .i64 0)).heap[D]? = some (.deferred (some [])) := (KeepsOthers.setCell W _ _).same D _ hK rfl
    refine ⟨by simp, .inl ⟨_, _, rfl, run_takeDeferred hK2, ?_⟩⟩
    have hb2 := belowK_b (w := W0) (Nat.le_refl _) _ D _ (.deferred none) (by simpa using hD) hK2 rfl rfl
    have v0 := hb2.cell (p := ⟨w.heap.size, 0, none⟩) (by show w.heap.size < _; omega)
    have hbx : Below w.heap.size w (W.setCell ⟨w.heap.size, 0, none⟩ (.int .i64 0)) := by ((repeat' (first | exact Below.refl _ _ | assumption | refine Below.setCell ?_ ?_ _ | refine bdrewN ?_ _ | refine Below.drew ?_ | refine Below.alloc ?_ ?_ _ | refine bbehind ?_ (by assumption) ?_)); all_goals first | (simp; done) | (simp; omega) | omega)
    have hbb := hbx.trans (hb2.mono (by omega))
    generalize (W.setCell ⟨w.heap.size, 0, none⟩ (.int .i64 0)).putObj D (.deferred none) = Wf at v0 hbb ⊢
    have u0 : Wf.cell? ⟨w.heap.size, 0, none⟩ = some (.int .i64 0) := by rw [v0]; exact (by simp (maxDischargeDepth := 8) [go_sem, *])
    exact ⟨.int .i64 0, by simp (maxDischargeDepth := 8) [results, go_sem, Tryz.results19, u0], by rw [HO.out], hbb⟩
  case stop =>
    rintro D c pre W hD hp ⟨rfl, c0, err, size, bel⟩ hK
    have HO := Lib.hid (show foErr f = firstV pre by
      obtain ⟨t, ht⟩ := hp
      rw [HE.out, ← firstV_seq f [] 0, ← ht, firstV_app, if_pos err])
    gi_wp2
    refine ⟨by simp, .inl ⟨_, _, rfl, run_takeDeferred hK, ?_⟩⟩
    have hb2 := belowK_b (w := W0) (Nat.le_refl _) _ D _ (.deferred none) (by simpa using hD) hK rfl rfl
    have v0 := hb2.cell (p := ⟨w.heap.size, 0, none⟩) (by show w.heap.size < _; omega)
    have hbb := bel.trans (hb2.mono (by omega))
    generalize W.putObj D (.deferred none) = Wf at v0 hbb ⊢
    have u0 : Wf.cell? ⟨w.heap.size, 0, none⟩ = some (.int .i64 (firstV pre)) := by rw [v0]; exact c0
    exact ⟨.int .i64 (firstV pre), by simp (maxDischargeDepth := 8) [results, go_sem, Tryz.results19, u0], by rw [HO.out], hbb⟩

theorem tcheck_any (f : Fo) (v : Value) (w : World) (hl : Lies w v f) (hs : Small f) :
    Calls Tryz.prog 19 #[v] w fun e W' => e = .returned (.int .i64 (foErr f)) ∧ Below w.heap.size w W' := by
  by_cases hb : bndErr f = 0
  · exact callsIn_wide.1 (check_in f v w hl hs hb)
  · exact check_bnd f v w hl hs hb

theorem fine_bounds {f : Fo} (h : foErr f = 0) : f.size ≤ 400 ∧ f.deep ≤ 40 ∧ headsErr f = 0 := by
  unfold foErr at h
  split at h
  · cases h
  · split at h
    · cases h
    · exact ⟨by omega, by omega, h⟩

/-- what Size and Deep give. -/
def sizeT (f : Fo) : Int × Int := if foErr f = 0 then (f.size, 0) else (0, foErr f)
set_option maxHeartbeats 1000000 in
theorem tsize_any (f : Fo) (v : Value) (w : World) (hl : Lies w v f) (hs : Small f) :
    Calls Tryz.prog 21 #[v] w fun e W' => e = .returned (.tuple #[.int .i64 (sizeT f).1, .int .i64 (sizeT f).2]) ∧ Below w.heap.size w W' := by
  have hsz := hs.size
  have C := Lib.hid (tcheck_any f v w hl hs)
  have M := Lib.hid (fun w1 (hw : Below w.heap.size w w1) => measure_any f v w1 (lies_below hl hw) (by omega))
  obtain ⟨a, cap, rfl⟩ := lies_form hl
  clear hl
  by_cases h0 : foErr f = 0
  · have HS := Lib.hid (show sizeT f = ((f.size : Int), 0) from if_pos h0)
    have HB := Lib.hid (fine_bounds h0)
    rw [h0] at C
    clear h0
    rw [HS.out]
    go_enter Tryz.func21, Tryz.ntmps21
    go_wp2_with fail
    refine (C.out).mono ?_; rintro e w1 ⟨rfl, hb1⟩; obtain ⟨hc1, hf1⟩ := bcell hb1; have hs1 := hb1.size; (try simp at hs1); (try have hz10 : w.heap.size < w1.heap.size := by omega); (try have hz11 : w.heap.size + 1 < w1.heap.size := by omega); (try have hz12 : w.heap.size + 1 + 1 < w1.heap.size := by omega); (try have hz13 : w.heap.size + 1 + 1 + 1 < w1.heap.size := by omega); (try have hz14 : w.heap.size + 1 + 1 + 1 + 1 < w1.heap.size := by omega); (try have hz15 : w.heap.size + 1 + 1 + 1 + 1 + 1 < w1.heap.size := by omega)
    go_wp2_with fail
    refine (M.out _ hb1).mono ?_; rintro e w2 ⟨s, d, rfl, h1, h2, hb2⟩
    obtain ⟨rfl, rfl⟩ := h1 HB.out.1
    clear h1 h2
    go_wp2_with fail
    go_ret2
    exact ⟨rfl, by ((repeat' (first | exact Below.refl _ _ | assumption | refine Below.setCell ?_ ?_ _ | refine bdrewN ?_ _ | refine Below.drew ?_ | refine Below.alloc ?_ ?_ _ | refine bbehind ?_ (by assumption) ?_)); all_goals first | (simp; done) | (simp; omega) | omega)⟩
  · have HS := Lib.hid (show sizeT f = (0, foErr f) from if_neg h0)
    rw [HS.out]
    generalize foErr f = e0 at *
    have b0 : (e0 != 0) = true := by simpa using h0
    clear h0
    go_enter Tryz.func21, Tryz.ntmps21
    go_wp2_with fail
    refine (C.out).mono ?_; rintro e w1 ⟨rfl, hb1⟩; obtain ⟨hc1, hf1⟩ := bcell hb1; have hs1 := hb1.size; (try simp at hs1); (try have hz10 : w.heap.size < w1.heap.size := by omega); (try have hz11 : w.heap.size + 1 < w1.heap.size := by omega); (try have hz12 : w.heap.size + 1 + 1 < w1.heap.size := by omega); (try have hz13 : w.heap.size + 1 + 1 + 1 < w1.heap.size := by omega); (try have hz14 : w.heap.size + 1 + 1 + 1 + 1 < w1.heap.size := by omega); (try have hz15 : w.heap.size + 1 + 1 + 1 + 1 + 1 < w1.heap.size := by omega)
    go_wp2_with fail
    go_ret2
    exact ⟨rfl, by ((repeat' (first | exact Below.refl _ _ | assumption | refine Below.setCell ?_ ?_ _ | refine bdrewN ?_ _ | refine Below.drew ?_ | refine Below.alloc ?_ ?_ _ | refine bbehind ?_ (by assumption) ?_)); all_goals first | (simp; done) | (simp; omega) | omega)⟩
end Go.Proofs.YtcgedpfolloinaaGreat

namespace Go.Proofs.YtcgedpfolloinaaGreat
open Go.RowKit

def firstNZ : List Int → Int
  | [] => 0
  | e :: es => if e ≠ 0 then e else firstNZ es
theorem firstNZ_drop {l : List Int} {k : Nat} (hk : k < l.length) : firstNZ (l.drop k) = if l.getD k 0 ≠ 0 then l.getD k 0 else firstNZ (l.drop (k + 1)) := by
  rw [List.drop_eq_getElem_cons hk, firstNZ]
  have : l.getD k 0 = l[k] := by rw [List.getD_eq_getElem?_getD, List.getElem?_eq_getElem hk, Option.getD_some]
  rw [this]

set_option maxHeartbeats 1000000 in
theorem orErr_any (v : Value) (l : List Int) (w : World) (h : IntsLie w v l) (hl : l.length ≤ 1000000) :
    Calls Tryz.prog 129 #[v] w fun e w' => e = .returned (.int .i64 (firstNZ l)) ∧ w = w' := by
  obtain ⟨a, cap, rfl⟩ := ints_form h
  have H := Lib.hid h
  clear h
  go_enter Tryz.func129, Tryz.ntmps129
  go_wp2_with fail
  go_loop [8] (fun i => ∃ k : Nat, i = .int .i64 k ∧ k ≤ l.length ∧ firstNZ l = firstNZ (l.drop k)) (fun i => l.length - (intOf i).toNat)
  case atStart => exact ⟨0, rfl, Nat.zero_le _, rfl⟩
  case round =>
    obtain ⟨k, rfl, hk, he⟩ := hrel
    have HE := Lib.hid he
    clear he
    by_cases hlt : k < l.length
    · obtain ⟨b, off, cap', hs, hcap, hb, hc⟩ := ints_cells H.out (by intro e; subst e; simp at hlt)
      simp only [Value.slice.injEq] at hs
      obtain ⟨rfl, -, rfl⟩ := hs
      have c := hc k hlt
      have HS := Lib.hid (HE.out.trans (firstNZ_drop hlt))
      clear hc
      generalize l.getD k 0 = x at *
      by_cases hx : x = 0
      · have HX := Lib.hid (HS.out.trans (if_neg (by simpa using hx)))
        have b0 : (x != 0) = false := by simpa using hx
        clear hx
        go_wp2_with fail
        go_round
        case rel => exact ⟨k + 1, by go_num, by omega, HX.out⟩
        case measure => simp [intOf]; omega
      · have HX := Lib.hid (HS.out.trans (if_pos (by simpa using hx)))
        have b0 : (x != 0) = true := by simpa using hx
        clear hx
        go_wp2_with fail
        go_ret
        exact ⟨ret_int' HX.out.symm, rfl⟩
    · have HX := Lib.hid (show firstNZ l = 0 from HE.out.trans (by rw [List.drop_of_length_le (by omega)]; rfl))
      go_wp2_with fail
      go_ret
      exact ⟨ret_int' HX.out.symm, rfl⟩
theorem terr_any (v : Value) (l : List Int) (w : World) (h : IntsLie w v l) (hl : l.length ≤ 1000000) :
    Calls Tryz.prog 85 #[v] w fun e w' => e = .returned (.int .i64 (firstNZ l)) ∧ w = w' := by
  have O := Lib.hid (orErr_any v l w h hl)
  obtain ⟨a, cap, rfl⟩ := ints_form h
  clear h
  go_enter Tryz.func85, Tryz.ntmps85
  go_wp2_with fail
  refine O.out.mono ?_; rintro e w' ⟨rfl, rfl⟩
  go_wp2_with fail
  go_ret
  exact ⟨rfl, rfl⟩

/-- the tree at a path. -/
def placeF : Fo → List Int → Option (Hd × Fo)
  | _, [] => none
  | f, i :: p =>
    if i < 0 then none else match f.drop i.toNat with
      | .nil => none
      | .cons h ks _ => if p = [] then some (h, ks) else placeF ks p

end Go.Proofs.YtcgedpfolloinaaGreat

namespace Go.Proofs.YtcgedpfolloinaaGreat
open Go.RowKit

def zeroHd : Hd := ⟨0, [], [], 0, 0, []⟩
/-- a block of seven cells that holds a tree. -/
def TreeBlk (W : World) (R : Nat) (h : Hd) (aa : Option Addr) (ca : Nat) (ak : Option Addr) (n ck : Nat) : Prop :=
  W.heap[R]? = some (.cells #[.int .i64 h.k, .string ⟨h.l.toArray⟩, .slice aa h.ats.length ca, .int .i64 h.n, .int .i64 h.d, .string ⟨h.x.toArray⟩, .slice ak n ck] 43 (0, 0))
/- all seven are written. -/
theorem set7_blk {W : World} {R : Nat} {T : TypeId} {a0 a1 a2 a3 a4 a5 a6 : Value} (b0 b1 b2 b3 b4 b5 b6 : Value) (h : W.heap[R]? = some (.cells #[a0, a1, a2, a3, a4, a5, a6] T (0, 0))) :
    (((((((W.setCell ⟨R, 0, none⟩ b0).setCell ⟨R, 1, none⟩ b1).setCell ⟨R, 2, none⟩ b2).setCell ⟨R, 3, none⟩ b3).setCell ⟨R, 4, none⟩ b4).setCell ⟨R, 5, none⟩ b5).setCell ⟨R, 6, none⟩ b6).heap[R]? = some (.cells #[b0, b1, b2, b3, b4, b5, b6] T (0, 0)) := by
  have h0 : (W.setCell ⟨R, 0, none⟩ b0).heap[R]? = some (.cells #[b0, a1, a2, a3, a4, a5, a6] T (0, 0)) := set_block h
  have h1 : ((W.setCell ⟨R, 0, none⟩ b0).setCell ⟨R, 1, none⟩ b1).heap[R]? = some (.cells #[b0, b1, a2, a3, a4, a5, a6] T (0, 0)) := set_block h0
  have h2 : (((W.setCell ⟨R, 0, none⟩ b0).setCell ⟨R, 1, none⟩ b1).setCell ⟨R, 2, none⟩ b2).heap[R]? = some (.cells #[b0, b1, b2, a3, a4, a5, a6] T (0, 0)) := set_block h1
  have h3 : ((((W.setCell ⟨R, 0, none⟩ b0).setCell ⟨R, 1, none⟩ b1).setCell ⟨R, 2, none⟩ b2).setCell ⟨R, 3, none⟩ b3).heap[R]? = some (.cells #[b0, b1, b2, b3, a4, a5, a6] T (0, 0)) := set_block h2
  have h4 : (((((W.setCell ⟨R, 0, none⟩ b0).setCell ⟨R, 1, none⟩ b1).setCell ⟨R, 2, none⟩ b2).setCell ⟨R, 3, none⟩ b3).setCell ⟨R, 4, none⟩ b4).heap[R]? = some (.cells #[b0, b1, b2, b3, b4, a5, a6] T (0, 0)) := set_block h3
  have h5 : ((((((W.setCell ⟨R, 0, none⟩ b0).setCell ⟨R, 1, none⟩ b1).setCell ⟨R, 2, none⟩ b2).setCell ⟨R, 3, none⟩ b3).setCell ⟨R, 4, none⟩ b4).setCell ⟨R, 5, none⟩ b5).heap[R]? = some (.cells #[b0, b1, b2, b3, b4, b5, a6] T (0, 0)) := set_block h4
  have h6 : (((((((W.setCell ⟨R, 0, none⟩ b0).setCell ⟨R, 1, none⟩ b1).setCell ⟨R, 2, none⟩ b2).setCell ⟨R, 3, none⟩ b3).setCell ⟨R, 4, none⟩ b4).setCell ⟨R, 5, none⟩ b5).setCell ⟨R, 6, none⟩ b6).heap[R]? = some (.cells #[b0, b1, b2, b3, b4, b5, b6] T (0, 0)) := set_block h5
  exact h6
theorem set7_below {W w : World} {R B : Nat} (b0 b1 b2 b3 b4 b5 b6 : Value) (h : Below B w W) (hR : B ≤ R) : Below B w (((((((W.setCell ⟨R, 0, none⟩ b0).setCell ⟨R, 1, none⟩ b1).setCell ⟨R, 2, none⟩ b2).setCell ⟨R, 3, none⟩ b3).setCell ⟨R, 4, none⟩ b4).setCell ⟨R, 5, none⟩ b5).setCell ⟨R, 6, none⟩ b6) :=
  ((((((h.setCell hR _).setCell hR _).setCell hR _).setCell hR _).setCell hR _).setCell hR _).setCell hR _
theorem set7_size (W : World) (R : Nat) (b0 b1 b2 b3 b4 b5 b6 : Value) : (((((((W.setCell ⟨R, 0, none⟩ b0).setCell ⟨R, 1, none⟩ b1).setCell ⟨R, 2, none⟩ b2).setCell ⟨R, 3, none⟩ b3).setCell ⟨R, 4, none⟩ b4).setCell ⟨R, 5, none⟩ b5).setCell ⟨R, 6, none⟩ b6).heap.size = W.heap.size := by simp [World.setCell]
def aggOf (h : Hd) (aa : Option Addr) (ca : Nat) (ak : Option Addr) (n ck : Nat) : Value :=
  .agg #[.int .i64 h.k, .string ⟨h.l.toArray⟩, .slice aa h.ats.length ca, .int .i64 h.n, .int .i64 h.d, .string ⟨h.x.toArray⟩, .slice ak n ck]
def resF (g : Fo) (last : Option (Hd × Fo)) (rest : List Int) : Option (Hd × Fo) := if rest = [] then last else placeF g rest
theorem resF_step {g : Fo} {last : Option (Hd × Fo)} {p : List Int} {j : Nat} (hj : j < p.length) :
    resF g last (p.drop j) = if p.getD j 0 < 0 ∨ g.len ≤ (p.getD j 0).toNat then none else match g.drop (p.getD j 0).toNat with
      | .nil => none
      | .cons h ks _ => resF ks (some (h, ks)) (p.drop (j + 1)) := by
  obtain ⟨x, hx⟩ : ∃ x, p[j] = x := ⟨_, rfl⟩
  have e : p.getD j 0 = x := by rw [List.getD_eq_getElem?_getD, List.getElem?_eq_getElem hj, Option.getD_some, hx]
  rw [e, List.drop_eq_getElem_cons hj, hx]
  unfold resF
  rw [if_neg (by simp), placeF]
  by_cases h0 : x < 0
  · simp [h0]
  · by_cases h1 : g.len ≤ x.toNat
    · simp [h0, h1, Fo.drop_ge _ _ h1]
    · obtain ⟨hd, ks, e2⟩ := Fo.drop_lt _ g (by omega : x.toNat < g.len)
      simp only [h0, if_false, h1, or_self, e2]

/-- what treeAt gives. -/
def TreeRes (w : World) (o : Option (Hd × Fo)) (w' : World) (e : Ending) : Prop :=
  ∃ h ks aa ca ak ck, e = .returned (.tuple #[aggOf h aa ca ak ks.len ck, .bool o.isSome]) ∧ AttrsLie w (.slice aa h.ats.length ca) h.ats ∧ Lies w (.slice ak ks.len ck) ks ∧ (o = some (h, ks) ∨ (o = none ∧ h = zeroHd ∧ ks = .nil ∧ aa = none ∧ ca = 0 ∧ ak = none ∧ ck = 0)) ∧ Below w.heap.size w w'

set_option maxRecDepth 100000 in
set_option maxHeartbeats 4000000 in
theorem treeAt_any (f : Fo) (p : List Int) (v pv : Value) (w : World) (hl : Lies w v f) (hp : IntsLie w pv p) (hpl : p.length ≤ 1000000) :
    Calls Tryz.prog 92 #[v, pv] w fun e w' => TreeRes w (placeF f p) w' e := by
  have HL := Lib.hid hl
  have HP := Lib.hid hp
  obtain ⟨a, cap, rfl⟩ := lies_form hl
  obtain ⟨pa, pc, rfl⟩ := ints_form hp
  have hlen := lies_len hl
  clear hl hp
  have HR := Lib.hid (show placeF f p = resF f none (p.drop 0) by
    unfold resF; cases p with
    | nil => cases f <;> rfl
    | cons i p => simp)
  go_enter Tryz.func92, Tryz.ntmps92
  go_wp2_with fail
  go_loopw [0, 5, 10] (fun v0 b i wr => ∃ (j : Nat) (g : Fo) (last : Option (Hd × Fo)) (h : Hd) (ks : Fo) (a0 : Option Addr) (c0 : Nat) (aa : Option Addr) (ca : Nat) (ak : Option Addr) (ck : Nat),
    i = .int .i64 j ∧ j ≤ p.length ∧ v0 = .slice a0 g.len c0 ∧ Lies w (.slice a0 g.len c0) g ∧ b = .bool last.isSome ∧ placeF f p = resF g last (p.drop j) ∧ TreeBlk wr w.heap.size h aa ca ak ks.len ck ∧
    AttrsLie w (.slice aa h.ats.length ca) h.ats ∧ Lies w (.slice ak ks.len ck) ks ∧ (last = some (h, ks) ∨ (last = none ∧ h = zeroHd ∧ ks = .nil ∧ aa = none ∧ ca = 0 ∧ ak = none ∧ ck = 0)) ∧ w.heap.size < wr.heap.size ∧ Below w.heap.size w wr)
    (fun _ _ i _ => p.length - (intOf i).toNat)
  case atStart =>
    exact ⟨0, f, none, zeroHd, .nil, a, cap, none, 0, none, 0, rfl, Nat.zero_le _, rfl, HL.out, rfl, HR.out, World.alloc_heap_new _ _, .inl ⟨_, _, rfl, rfl⟩, .inl ⟨_, _, rfl, rfl⟩, .inr ⟨rfl, rfl, rfl, rfl, rfl, rfl, rfl⟩, by simp, by ((repeat' (first | exact Below.refl _ _ | assumption | refine Below.setCell ?_ ?_ _ | refine bdrewN ?_ _ | refine Below.drew ?_ | refine Below.alloc ?_ ?_ _ | refine bbehind ?_ (by assumption) ?_)); all_goals first | (simp; done) | (simp; omega) | omega)⟩
  case round =>
    obtain ⟨j, g, last, h, ks, a0, c0, aa, ca, ak, ck, rfl, hj, rfl, hg, rfl, hres, hblk, ha, hk, hlast, hsz, hbw⟩ := hrel
    have d0 : wr.cell? ⟨w.heap.size, 0, none⟩ = some (.int .i64 h.k) := cell_of_block hblk rfl
    have e0 := frozen_of_block (o := 0) hblk
    have d1 : wr.cell? ⟨w.heap.size, 1, none⟩ = some (.string ⟨h.l.toArray⟩) := cell_of_block hblk rfl
    have e1 := frozen_of_block (o := 1) hblk
    have d2 : wr.cell? ⟨w.heap.size, 2, none⟩ = some (.slice aa h.ats.length ca) := cell_of_block hblk rfl
    have e2 := frozen_of_block (o := 2) hblk
    have d3 : wr.cell? ⟨w.heap.size, 3, none⟩ = some (.int .i64 h.n) := cell_of_block hblk rfl
    have e3 := frozen_of_block (o := 3) hblk
    have d4 : wr.cell? ⟨w.heap.size, 4, none⟩ = some (.int .i64 h.d) := cell_of_block hblk rfl
    have e4 := frozen_of_block (o := 4) hblk
    have d5 : wr.cell? ⟨w.heap.size, 5, none⟩ = some (.string ⟨h.x.toArray⟩) := cell_of_block hblk rfl
    have e5 := frozen_of_block (o := 5) hblk
    have d6 : wr.cell? ⟨w.heap.size, 6, none⟩ = some (.slice ak ks.len ck) := cell_of_block hblk rfl
    have e6 := frozen_of_block (o := 6) hblk
    have HBLK := Lib.hid hblk
    clear hblk
    have HRES := Lib.hid hres
    have HG := Lib.hid hg
    have HA := Lib.hid ha
    have HK := Lib.hid hk
    have HLAST := Lib.hid hlast
    have hglen := lies_len hg
    clear hres hg ha hk hlast
    by_cases hlt : j < p.length
    · obtain ⟨b, off, cap', hs, hcap, hb, hc⟩ := ints_cells HP.out (by intro e; subst e; simp at hlt)
      simp only [Value.slice.injEq] at hs
      obtain ⟨rfl, -, rfl⟩ := hs
      have cj := (hbw.cell (p := ⟨b, off + j, none⟩) hb).trans (hc j hlt)
      have hbr : b < wr.heap.size := by omega
      have HST := Lib.hid (HRES.out.trans (resF_step hlt))
      clear hc
      generalize p.getD j 0 = x at *
      by_cases hx : x < 0
      · have dx : decide (x < 0) = true := by simpa using hx
        have HX := Lib.hid (HST.out.trans (if_pos (.inl hx)))
        go_wp2_with fail
        have hfin := set7_blk (.int .i64 0) (.string ⟨#[]⟩) (.slice none 0 0) (.int .i64 0) (.int .i64 0) (.string ⟨#[]⟩) (.slice none 0 0) HBLK.out
        have hbel := set7_below (R := w.heap.size) (.int .i64 0) (.string ⟨#[]⟩) (.slice none 0 0) (.int .i64 0) (.int .i64 0) (.string ⟨#[]⟩) (.slice none 0 0) hbw (Nat.le_refl _)
        generalize (((((((wr.setCell ⟨w.heap.size, 0, none⟩ (.int .i64 0)).setCell ⟨w.heap.size, 1, none⟩ (.string ⟨#[]⟩)).setCell ⟨w.heap.size, 2, none⟩ (.slice none 0 0)).setCell ⟨w.heap.size, 3, none⟩ (.int .i64 0)).setCell ⟨w.heap.size, 4, none⟩ (.int .i64 0)).setCell ⟨w.heap.size, 5, none⟩ (.string ⟨#[]⟩)).setCell ⟨w.heap.size, 6, none⟩ (.slice none 0 0)) = Wf at hfin hbel ⊢
        have u0 : Wf.cell? ⟨w.heap.size, 0, none⟩ = some (.int .i64 0) := cell_of_block hfin rfl
        have u1 : Wf.cell? ⟨w.heap.size, 1, none⟩ = some (.string ⟨#[]⟩) := cell_of_block hfin rfl
        have u2 : Wf.cell? ⟨w.heap.size, 2, none⟩ = some (.slice none 0 0) := cell_of_block hfin rfl
        have u3 : Wf.cell? ⟨w.heap.size, 3, none⟩ = some (.int .i64 0) := cell_of_block hfin rfl
        have u4 : Wf.cell? ⟨w.heap.size, 4, none⟩ = some (.int .i64 0) := cell_of_block hfin rfl
        have u5 : Wf.cell? ⟨w.heap.size, 5, none⟩ = some (.string ⟨#[]⟩) := cell_of_block hfin rfl
        have u6 : Wf.cell? ⟨w.heap.size, 6, none⟩ = some (.slice none 0 0) := cell_of_block hfin rfl
        refine bodyPost_ret (v := .tuple #[aggOf zeroHd none 0 none 0 0, .bool false]) (by simp [results, Tryz.results92, go_sem, aggOf, zeroHd, u0, u1, u2, u3, u4, u5, u6]) rfl ?_
        exact ⟨zeroHd, .nil, none, 0, none, 0, by rw [HX.out]; rfl, .inl ⟨_, _, rfl, rfl⟩, .inl ⟨_, _, rfl, rfl⟩, .inr ⟨HX.out, rfl, rfl, rfl, rfl, rfl, rfl⟩, hbel⟩
      · have dx : decide (x < 0) = false := by simpa using hx
        by_cases hx2 : (g.len : Int) ≤ x
        · have dx2 : decide ((g.len : Int) ≤ x) = true := by simpa using hx2
          have HX := Lib.hid (HST.out.trans (if_pos (.inr (by omega))))
          go_wp2_with fail
          have hfin := set7_blk (.int .i64 0) (.string ⟨#[]⟩) (.slice none 0 0) (.int .i64 0) (.int .i64 0) (.string ⟨#[]⟩) (.slice none 0 0) HBLK.out
          have hbel := set7_below (R := w.heap.size) (.int .i64 0) (.string ⟨#[]⟩) (.slice none 0 0) (.int .i64 0) (.int .i64 0) (.string ⟨#[]⟩) (.slice none 0 0) hbw (Nat.le_refl _)
          generalize (((((((wr.setCell ⟨w.heap.size, 0, none⟩ (.int .i64 0)).setCell ⟨w.heap.size, 1, none⟩ (.string ⟨#[]⟩)).setCell ⟨w.heap.size, 2, none⟩ (.slice none 0 0)).setCell ⟨w.heap.size, 3, none⟩ (.int .i64 0)).setCell ⟨w.heap.size, 4, none⟩ (.int .i64 0)).setCell ⟨w.heap.size, 5, none⟩ (.string ⟨#[]⟩)).setCell ⟨w.heap.size, 6, none⟩ (.slice none 0 0)) = Wf at hfin hbel ⊢
          have u0 : Wf.cell? ⟨w.heap.size, 0, none⟩ = some (.int .i64 0) := cell_of_block hfin rfl
          have u1 : Wf.cell? ⟨w.heap.size, 1, none⟩ = some (.string ⟨#[]⟩) := cell_of_block hfin rfl
          have u2 : Wf.cell? ⟨w.heap.size, 2, none⟩ = some (.slice none 0 0) := cell_of_block hfin rfl
          have u3 : Wf.cell? ⟨w.heap.size, 3, none⟩ = some (.int .i64 0) := cell_of_block hfin rfl
          have u4 : Wf.cell? ⟨w.heap.size, 4, none⟩ = some (.int .i64 0) := cell_of_block hfin rfl
          have u5 : Wf.cell? ⟨w.heap.size, 5, none⟩ = some (.string ⟨#[]⟩) := cell_of_block hfin rfl
          have u6 : Wf.cell? ⟨w.heap.size, 6, none⟩ = some (.slice none 0 0) := cell_of_block hfin rfl
          refine bodyPost_ret (v := .tuple #[aggOf zeroHd none 0 none 0 0, .bool false]) (by simp [results, Tryz.results92, go_sem, aggOf, zeroHd, u0, u1, u2, u3, u4, u5, u6]) rfl ?_
          exact ⟨zeroHd, .nil, none, 0, none, 0, by rw [HX.out]; rfl, .inl ⟨_, _, rfl, rfl⟩, .inl ⟨_, _, rfl, rfl⟩, .inr ⟨HX.out, rfl, rfl, rfl, rfl, rfl, rfl⟩, hbel⟩
        · obtain ⟨n, rfl⟩ := Int.eq_ofNat_of_zero_le (by omega : 0 ≤ x)
          have hn : n < g.len := by omega
          have dx2 : decide (g.len ≤ n) = false := by simp; omega
          obtain ⟨b2, o2, cap2, hs2, hcap2, -, hb2, hrow⟩ := lies_row HG.out (by omega)
          simp only [Value.slice.injEq] at hs2
          obtain ⟨rfl, -, rfl⟩ := hs2
          obtain ⟨hd, ks', e, ⟨q0, q1, ⟨va, q2, ha'⟩, q3, q4, q5⟩, vk, q6, hlk⟩ := row_get hrow hn
          have r0 := (hbw.cell (p := ⟨b2, o2 + n * 7, none⟩) hb2).trans q0
          have r1 := (hbw.cell (p := ⟨b2, o2 + n * 7 + 1, none⟩) hb2).trans q1
          have r2 := (hbw.cell (p := ⟨b2, o2 + n * 7 + 2, none⟩) hb2).trans q2
          have r3 := (hbw.cell (p := ⟨b2, o2 + n * 7 + 3, none⟩) hb2).trans q3
          have r4 := (hbw.cell (p := ⟨b2, o2 + n * 7 + 4, none⟩) hb2).trans q4
          have r5 := (hbw.cell (p := ⟨b2, o2 + n * 7 + 5, none⟩) hb2).trans q5
          have r6 := (hbw.cell (p := ⟨b2, o2 + n * 7 + 6, none⟩) hb2).trans q6
          obtain ⟨aa', ca', rfl⟩ := attrs_form ha'
          obtain ⟨ak', ck', rfl⟩ := lies_form hlk
          have HX := Lib.hid (show placeF f p = resF ks' (some (hd, ks')) (p.drop (j + 1)) from HST.out.trans (by
            rw [if_neg (by simp; omega), Int.toNat_natCast, e]))
          have HA' := Lib.hid ha'
          have HK' := Lib.hid hlk
          have hbr2 : b2 < wr.heap.size := by omega
          have nb2 : ¬ b2 = w.heap.size := by omega
          have nb3 : ¬ w.heap.size = b2 := by omega
          clear q0 q1 q2 q3 q4 q5 q6 ha' hlk e hrow
          go_wp2_with fail
          go_roundw
          case rel => exact ⟨j + 1, ks', some (hd, ks'), hd, ks', ak', ck', aa', ca', ak', ck', by go_num, by omega, rfl, HK'.out, rfl, HX.out, set7_blk _ _ _ _ _ _ _ HBLK.out, HA'.out, HK'.out, .inl rfl, by rw [set7_size]; exact hsz, set7_below _ _ _ _ _ _ _ hbw (Nat.le_refl _)⟩
          case measure => simp [intOf]; omega
    · have HX := Lib.hid (show placeF f p = last from HRES.out.trans (by rw [List.drop_of_length_le (by omega)]; rfl))
      go_wp2_with fail
      have hfin := set7_blk (.int .i64 h.k) (.string ⟨h.l.toArray⟩) (.slice aa h.ats.length ca) (.int .i64 h.n) (.int .i64 h.d) (.string ⟨h.x.toArray⟩) (.slice ak ks.len ck) HBLK.out
      have hbel := set7_below (R := w.heap.size) (.int .i64 h.k) (.string ⟨h.l.toArray⟩) (.slice aa h.ats.length ca) (.int .i64 h.n) (.int .i64 h.d) (.string ⟨h.x.toArray⟩) (.slice ak ks.len ck) hbw (Nat.le_refl _)
      generalize (((((((wr.setCell ⟨w.heap.size, 0, none⟩ (.int .i64 h.k)).setCell ⟨w.heap.size, 1, none⟩ (.string ⟨h.l.toArray⟩)).setCell ⟨w.heap.size, 2, none⟩ (.slice aa h.ats.length ca)).setCell ⟨w.heap.size, 3, none⟩ (.int .i64 h.n)).setCell ⟨w.heap.size, 4, none⟩ (.int .i64 h.d)).setCell ⟨w.heap.size, 5, none⟩ (.string ⟨h.x.toArray⟩)).setCell ⟨w.heap.size, 6, none⟩ (.slice ak ks.len ck)) = Wf at hfin hbel ⊢
      have u0 : Wf.cell? ⟨w.heap.size, 0, none⟩ = some (.int .i64 h.k) := cell_of_block hfin rfl
      have u1 : Wf.cell? ⟨w.heap.size, 1, none⟩ = some (.string ⟨h.l.toArray⟩) := cell_of_block hfin rfl
      have u2 : Wf.cell? ⟨w.heap.size, 2, none⟩ = some (.slice aa h.ats.length ca) := cell_of_block hfin rfl
      have u3 : Wf.cell? ⟨w.heap.size, 3, none⟩ = some (.int .i64 h.n) := cell_of_block hfin rfl
      have u4 : Wf.cell? ⟨w.heap.size, 4, none⟩ = some (.int .i64 h.d) := cell_of_block hfin rfl
      have u5 : Wf.cell? ⟨w.heap.size, 5, none⟩ = some (.string ⟨h.x.toArray⟩) := cell_of_block hfin rfl
      have u6 : Wf.cell? ⟨w.heap.size, 6, none⟩ = some (.slice ak ks.len ck) := cell_of_block hfin rfl
      refine bodyPost_ret (v := .tuple #[aggOf h aa ca ak ks.len ck, .bool last.isSome]) (by simp [results, Tryz.results92, go_sem, aggOf, u0, u1, u2, u3, u4, u5, u6]) rfl ?_
      exact ⟨h, ks, aa, ca, ak, ck, by rw [HX.out], HA.out, HK.out, by rw [HX.out]; exact HLAST.out, hbel⟩
end Go.Proofs.YtcgedpfolloinaaGreat
