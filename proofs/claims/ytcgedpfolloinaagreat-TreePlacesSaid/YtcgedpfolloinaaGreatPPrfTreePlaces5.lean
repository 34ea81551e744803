/- What the proof of PrfTreePlaces rests on, part 5 of 11. -/
import Derived.Maps.AppendAt
import Derived.Lib.OthersKept
import Derived.Lib.AppendStr
import Derived.Lib.UnsafeStr
import Derived.Laws.Externs
import Derived.OwnWalk
import Derived.Lib.Bytealg
import Derived.Test.YtcgedpfolloinaaGreatPPrfTreePlaces4
namespace Go.Proofs.YtcgedpfolloinaaGreat
open Go.RowKit Go.Shelf
attribute [local go_sem] Oper.semAt_some

theorem pre_step {s A B C D : List Vis} {x : Vis} (h : B = A ++ x :: C) (hB : B <+: D) {E : List Vis} (hD : s ++ D <+: E) : (s ++ A) ++ [x] <+: E := by
  obtain ⟨t, rfl⟩ := hB
  obtain ⟨u, rfl⟩ := hD
  exact ⟨C ++ t ++ u, by rw [h]; simp⟩
theorem pre_kids {s A B C D : List Vis} {x : Vis} (h : B = A ++ x :: C) (hB : B <+: D) {E : List Vis} (hD : s ++ D <+: E) : ((s ++ A) ++ [x]) ++ C <+: E := by
  obtain ⟨t, rfl⟩ := hB
  obtain ⟨u, rfl⟩ := hD
  exact ⟨t ++ u, by rw [h]; simp⟩

/-- what an iterator promises that hands its elements to a yield function, whatever it writes of its own. -/
def SeqOwnN {α : Type} (P : Program) (g : Nat) (lb : Array Value) (Enc : α → Array Value → World → Prop) (S Sp : List α → Prop) (n₀ : Nat) (St : World → Prop) : Prop :=
  ∀ (m l : Nat) (J : List α → (Nat → Prop) → World → Prop) (Jx : List α → World → Prop) (G : Nat → Prop) (W : World), St W →
    (∀ s G W W', J s G W → Spared G W W' → J s G W') → (∀ s G W, J s G W → ∀ k, G k → k < W.heap.size) →
    (∀ m s x args G W1, J s G W1 → Sp (s ++ [x]) → Enc x args W1 → YieldAt Fence.wide m P l args W1 fun e W' =>
      (e = .returned (.bool true) ∧ ∃ G', (∀ k, G' k → G k ∨ W1.heap.size ≤ k) ∧ J (s ++ [x]) G' W' ∧ But G W1 W' ∧ Below n₀ W1 W') ∨ (e = .returned (.bool false) ∧ Jx (s ++ [x]) W')) →
    (∀ k, n₀ ≤ k → k < W.heap.size → ¬ G k → True) → J [] G W →
    CallsIn Fence.wide m P g (#[.func (.yield l) #[] #[]] ++ lb) W fun e W' => (∃ v, e = .returned v) ∧ ((∃ xs G', S xs ∧ J xs G' W') ∨ (∃ pre, Sp pre ∧ Jx pre W'))

section
variable {P : Program}

theorem range_ownN {α : Type} {n : Nat} {g : Operand} {ps : Array Tmp} {assign body : Code} {Q : Exit → Act → World → Prop} {a : Act} {w : World}
    {gf : Nat} {lb : Array Value} (hg : a.eval g = .func (.func gf) #[] lb) (eg : ∀ args w, (callFunc gf args).run P w = .ok (.enter gf args) w)
    {Enc : α → Array Value → World → Prop} {S Sp : List α → Prop} {n₀ : Nat} {St : World → Prop} (hseq : SeqOwnN P gf lb Enc S Sp n₀ St)
    (hn₀ : n₀ ≤ w.heap.size) (hSt : ∀ o, St ((w.alloc (.deferred (some []))).alloc o)) (hps : ∀ x args W, Enc x args W → args.size = ps.size)
    (I : List α → (Nat → Prop) → World → Prop) (Ix : Code → List α → World → Prop) (G0 : Nat → Prop)
    (hI : ∀ s G W W', I s G W → Spared G W W' → I s G W') (hIs : ∀ s G W, I s G W → ∀ k, G k → k < W.heap.size)
    (hIx : ∀ c s W l o o', w.heap.size ≤ l → W.heap[l]? = some o → o.isCells = false → Ix c s W → Ix c s (W.putObj l o'))
    (hG0 : ∀ k, G0 k → k < w.heap.size) (h0 : I [] G0 w)
    (Ax : α → Act → World → Prop) (hAx : ∀ x a' W l o o', W.heap[l]? = some o → o.isCells = false → Ax x a' W → Ax x a' (W.putObj l o'))
    (hassign : ∀ (n' l : Nat) (pre : List α) (x : α) (args : Array Value) (G : Nat → Prop) (W : World) (K : Act → World → Prop), I pre G W → Enc x args W → w.heap.size + 2 ≤ W.heap.size →
      (∀ a' W', But G W W' → Below n₀ W W' → I pre G W' → Ax x a' W' → K a' W') →
      assign.wpIn (Fence.wide.inRound l) n' P (Exit.then K (fun _ _ _ => False)) { tmps := (ps.zip args).foldl (fun t (p, v) => t.setIfInBounds p v) a.tmps, defers := [] } W)
    (hbody : ∀ (n' l : Nat) (pre : List α) (x : α) (a' : Act) (G : Nat → Prop) (W : World), I pre G W → Ax x a' W → Sp (pre ++ [x]) → w.heap.size + 2 ≤ W.heap.size → body.wpIn (Fence.wide.inRound l) n' P (roundOwn n₀ I Ix (pre ++ [x]) G W) a' W)
    (hdone : ∀ (D : Nat) (xs : List α) (G : Nat → Prop) (W : World), w.heap.size ≤ D → S xs → I xs G W → W.heap[D]? = some (.deferred (some [])) → Q .normal { a with defers := { target := .collected D, args := #[] } :: a.defers } W)
    (hstop : ∀ (D : Nat) (c : Code) (pre : List α) (W : World), w.heap.size ≤ D → Sp pre → Ix c pre W → W.heap[D]? = some (.deferred (some [])) → c.wpIn Fence.wide n P Q { a with defers := { target := .collected D, args := #[] } :: a.defers } W) :
    (Code.rangeFunc g ps assign body).wpIn Fence.wide n P Q a w := by
  refine wpIn_rangeFunc ?_
  intro fn hfn
  obtain ⟨rec, hrec⟩ : ∃ rec : LoopState → Option Code → Loop, rec = fun st pe => { state := st, pending := pe, fn, tmps := a.tmps, params := ps, assign, body, defers := w.heap.size } := ⟨_, rfl⟩
  obtain ⟨W1, hW1⟩ : ∃ W1, (w.alloc (.deferred (some []))).alloc (.loop (rec .ready none)) = W1 := ⟨_, rfl⟩
  have hz1 : W1.heap.size = w.heap.size + 1 + 1 := by rw [← hW1]; simp
  have hL1 : W1.heap[w.heap.size + 1]? = some (.loop (rec .ready none)) := by
    rw [← hW1]; have := World.alloc_heap_new (w.alloc (.deferred (some []))) (.loop (rec .ready none)); rwa [World.size_alloc] at this
  have hK1 : W1.heap[w.heap.size]? = some (.deferred (some [])) := by
    rw [← hW1]; exact (Below.heap_alloc _ _ _ (by simp)).trans (World.alloc_heap_new w _)
  have hI1 : I [] G0 W1 := by
    rw [← hW1]
    exact hI _ _ _ _ h0 ((Spared.alloc hG0 _).trans (Spared.alloc (fun k hk => by have := hG0 k hk; simp; omega) _))
  refine ⟨w.heap.size + 1, [{ target := .collected w.heap.size, args := #[] }], W1, { target := .fn (.func gf) lb, args := #[.func (.yield (w.heap.size + 1)) #[] #[]] }, W1, gf,
    #[.func (.yield (w.heap.size + 1)) #[] #[]] ++ lb, W1, ?_, ?_, ?_, ?_, (fun h => by cases h), ?_⟩
  · rw [← hW1, hrec]; exact run_enterLoop_outer _ _ _ _ _
  · simp only [resolve, hg]
    simp [go_sem]
  · intro f' _; trivial
  · simp [invoke, go_sem, eg]
  · -- whose blocks are whose: the caller's, and the two that the statement has laid
    let T : Nat → Prop := fun k => k = w.heap.size ∨ k = w.heap.size + 1
    have hnot : ∀ (A : Nat → Prop), (∀ k, A k → ¬ T k) → ¬ A (w.heap.size + 1) ∧ ¬ A w.heap.size := fun A h => ⟨fun h1 => h _ h1 (.inr rfl), fun h1 => h _ h1 (.inl rfl)⟩
    refine (hseq (n - 1) (w.heap.size + 1)
      (fun pre G W => ∃ A : Nat → Prop, (∀ k, G k ↔ (A k ∨ T k)) ∧ (∀ k, A k → ¬ T k) ∧ I pre A W ∧ W.heap[w.heap.size + 1]? = some (.loop (rec .ready none)) ∧ W.heap[w.heap.size]? = some (.deferred (some [])))
      (fun pre W => ∃ c, Ix c pre W ∧ W.heap[w.heap.size + 1]? = some (.loop (rec .done (some c))) ∧ W.heap[w.heap.size]? = some (.deferred (some [])))
      (fun k => G0 k ∨ T k) W1 (by rw [← hW1]; exact hSt _) ?_ ?_ ?_ (fun _ _ _ _ => trivial) ⟨G0, fun _ => Iff.rfl, fun k hk ht => by have := hG0 k hk; rcases ht with rfl | rfl <;> omega, hI1, hL1, hK1⟩).mono ?_
    · rintro s G A B ⟨X, hX, hT, hi, hl, hk⟩ sp
      exact ⟨X, hX, hT, hI _ _ _ _ hi ⟨sp.os, sp.tape, sp.output, sp.size, fun k hk => sp.block k ((hX k).2 (.inl hk))⟩, (sp.block _ ((hX _).2 (.inr (.inr rfl)))).trans hl, (sp.block _ ((hX _).2 (.inr (.inl rfl)))).trans hk⟩
    · rintro s G A ⟨X, hX, hT, hi, hl, hk⟩ k hgk
      rcases (hX k).1 hgk with h | rfl | rfl
      · exact hIs _ _ _ hi k h
      · exact (Array.getElem?_eq_some_iff.1 hk).1
      · exact (Array.getElem?_eq_some_iff.1 hl).1
    · -- one round
      rintro m pre x args G W ⟨A, hX, hT, hi, hl, hk⟩ hsp hen
      obtain ⟨hA1, hA0⟩ := hnot A hT
      have hlt : w.heap.size + 1 < W.heap.size := (Array.getElem?_eq_some_iff.1 hl).1
      have hy := run_yield (P := P) (args := args) hl (by rw [hrec]; exact hps x args W hen)
      rw [hrec] at hy
      refine ⟨fn, _, assign, body, hy, roundIn_of_wpIn hfn (hassign m _ pre x args A W _ hi hen (by omega) ?_)⟩
      clear hy
      intro a' Wa hba hwa hia hax
      have hla : Wa.heap[w.heap.size + 1]? = some (.loop (rec .ready none)) := (hba.block _ hlt hA1).trans hl
      have hka : Wa.heap[w.heap.size]? = some (.deferred (some [])) := (hba.block _ (by omega) hA0).trans hk
      have hza := hba.size
      have hlta : w.heap.size + 1 < Wa.heap.size := by omega
      refine ⟨_, run_beginRound hla (by rw [hrec]), ?_⟩
      obtain ⟨Wb, hWb⟩ : ∃ Wb, Wa.putObj (w.heap.size + 1) (.loop { rec .ready none with state := .busy }) = Wb := ⟨_, rfl⟩
      have hzb : Wb.heap.size = Wa.heap.size := by rw [← hWb]; simp
      have hlb : Wb.heap[w.heap.size + 1]? = some (.loop { rec .ready none with state := .busy }) := by rw [← hWb]; exact World.putObj_heap_same hlta
      have hkb : Wb.heap[w.heap.size]? = some (.deferred (some [])) := by rw [← hWb]; exact (World.putObj_heap_other (by omega)).trans hka
      have hib : I pre A Wb := by rw [← hWb]; exact hI _ _ _ _ hia (Spared.putObj _ hA1 _)
      have hxb : Ax x a' Wb := by rw [← hWb]; exact hAx _ _ _ _ _ _ hla rfl hax
      have hbb : But (fun k => A k ∨ T k) W Wb := (hba.mono fun k h => .inl h).trans (by rw [← hWb]; exact But.putObj _ (.inr (.inr rfl)) _)
      have hwb : Below n₀ W Wb := hwa.trans (by
        rw [← hWb]
        exact ⟨rfl, rfl, rfl, by simp, fun k hk => World.putObj_heap_other (by omega)⟩)
      have hG : ∀ k, ¬ G k → ¬ (A k ∨ T k) := fun k hn h => hn ((hX k).2 h)
      rw [hWb]
      refine wpIn_mono (hbody m _ pre x a' A Wb hib hxb hsp (by omega)) ?_
      have fin : ∀ (jump : Option Code) (W3 : World), But A Wb W3 →
          (Instr.endRound (w.heap.size + 1) jump).run P W3 = .ok (.bool jump.isNone) (W3.putObj (w.heap.size + 1) (.loop (rec (if jump.isNone then .ready else .done) jump))) ∧
          W3.heap[w.heap.size + 1]? = some (.loop { rec .ready none with state := .busy }) ∧
          (W3.putObj (w.heap.size + 1) (.loop (rec (if jump.isNone then .ready else .done) jump))).heap[w.heap.size + 1]? = some (.loop (rec (if jump.isNone then .ready else .done) jump)) ∧
          (W3.putObj (w.heap.size + 1) (.loop (rec (if jump.isNone then .ready else .done) jump))).heap[w.heap.size]? = some (.deferred (some [])) := fun jump W3 h3 => by
        have hl3 := (h3.block _ (by omega) hA1).trans hlb
        have hk3 := (h3.block _ (by omega) hA0).trans hkb
        have := run_endRound (P := P) jump hl3
        rw [hrec] at this ⊢
        exact ⟨this, by rw [hrec] at hl3; exact hl3, World.putObj_heap_same (Array.getElem?_eq_some_iff.1 hl3).1, (World.putObj_heap_other (by omega)).trans hk3⟩
      rintro e a3 W3 hp
      cases e with
      | normal =>
        obtain ⟨hb3, hw3, A', hA', hi3⟩ := hp
        obtain ⟨hr, hl3, hl4, hk4⟩ := fin none W3 hb3
        have hz3 := hb3.size
        have hT' : ∀ k, A' k → ¬ T k := fun k h ht => by
          rcases hA' k h with h' | h'
          · exact hT k h' ht
          · rcases ht with rfl | rfl <;> omega
        obtain ⟨hA1', _⟩ := hnot A' hT'
        refine ⟨_, _, hr, .inl ⟨rfl, fun k => A' k ∨ T k, ?_, ⟨A', fun _ => Iff.rfl, hT', hI _ _ _ _ hi3 (Spared.putObj _ hA1' _), hl4, hk4⟩, ?_, ?_⟩⟩
        · intro k hk'
          rcases hk' with h | h
          · rcases hA' k h with h' | h'
            · exact .inl ((hX k).2 (.inl h'))
            · exact .inr (by omega)
          · exact .inl ((hX k).2 (.inr h))
        · refine (((hbb.trans (hb3.mono fun k h => .inl h)).trans (But.putObj _ (.inr (.inr rfl)) _)).mono fun k h => (hX k).2 h)
        · refine (hwb.trans hw3).trans ⟨rfl, rfl, rfl, by simp, fun k hk => World.putObj_heap_other (by omega)⟩
      | ret =>
        obtain ⟨hb3, hi3⟩ := hp
        obtain ⟨hr, hl3, hl4, hk4⟩ := fin (some .ret) W3 hb3
        exact ⟨_, _, hr, .inr ⟨rfl, .ret, hIx _ _ _ _ _ _ (by omega) hl3 rfl hi3, hl4, hk4⟩⟩
      | exit id =>
        obtain ⟨hb3, hi3⟩ := hp
        obtain ⟨hr, hl3, hl4, hk4⟩ := fin (some (.exit id)) W3 hb3
        exact ⟨_, _, hr, .inr ⟨rfl, .exit id, hIx _ _ _ _ _ _ (by omega) hl3 rfl hi3, hl4, hk4⟩⟩
      | goto t =>
        obtain ⟨hb3, hi3⟩ := hp
        obtain ⟨hr, hl3, hl4, hk4⟩ := fin (some (.goto t)) W3 hb3
        exact ⟨_, _, hr, .inr ⟨rfl, .goto t, hIx _ _ _ _ _ _ (by omega) hl3 rfl hi3, hl4, hk4⟩⟩
      | panic ch => exact hp.elim
      | outgrown => exact hp.elim
    · -- behind the iterator
      rintro e W2 ⟨⟨v, rfl⟩, (⟨xs, G, hS, A, hX, hT, hi, hl, hk⟩ | ⟨pre, hSp, c, hi, hl, hk⟩)⟩
      · obtain ⟨hA1, hA0⟩ := hnot A hT
        exact ⟨none, _, by have := run_endLoop (P := P) hl (by rw [hrec]; simp); rw [hrec] at this; exact this, hdone _ xs A _ (Nat.le_refl _) hS (hI _ _ _ _ hi (Spared.putObj _ hA1 _)) ((World.putObj_heap_other (by omega)).trans hk)⟩
      · exact ⟨some c, _, by have := run_endLoop (P := P) hl (by rw [hrec]; simp); rw [hrec] at this; exact this, hstop _ c pre _ (Nat.le_refl _) hSp (hIx _ _ _ _ _ _ (by omega) hl rfl hi) ((World.putObj_heap_other (by omega)).trans hk)⟩
end

set_option maxRecDepth 100000 in
set_option maxHeartbeats 4000000 in
theorem all_iterN (f0 : Fo) (w0 : World) (l pp py pa : Nat) (J : List Vis → (Nat → Prop) → World → Prop) (Jx : List Vis → World → Prop)
    (hJ : ∀ s G W W', J s G W → Spared G W W' → J s G W') (hJs : ∀ s G W, J s G W → ∀ k, G k → k < W.heap.size)
    (hY : ∀ m s x args G W1, J s G W1 → s ++ [x] <+: seqAt [] 0 f0 → EncVis f0 w0 x args W1 → YieldAt Fence.wide m Tryz.prog l args W1 fun e W' =>
      (e = .returned (.bool true) ∧ ∃ G', (∀ k, G' k → G k ∨ W1.heap.size ≤ k) ∧ J (s ++ [x]) G' W' ∧ But G W1 W' ∧ Below w0.heap.size W1 W') ∨ (e = .returned (.bool false) ∧ Jx (s ++ [x]) W')) :
    ∀ (q : Nat) (f : Fo) (v : Value) (pre : List Nat) (s : List Vis) (pv : Value) (G : Nat → Prop) (W : World) (m : Nat), f.size ≤ q → pre.length + f.size ≤ 1000000 → Lies w0 v f → Below w0.heap.size w0 W →
      (∀ x ∈ seqAt pre 0 f, x ∈ seqAt [] 0 f0) → s ++ seqAt pre 0 f <+: seqAt [] 0 f0 → J s G W → IterAt w0.heap.size pp py pa l pre pv G W →
      CallsIn Fence.wide m Tryz.prog 124 #[v, .pointer (some ⟨pp, 0, none⟩), .pointer (some ⟨py, 0, none⟩), .pointer (some ⟨pa, 0, none⟩)] W fun e W' =>
        (e = .returned (.bool true) ∧ ∃ pv' G', (∀ k, G' k → G k ∨ W.heap.size ≤ k) ∧ J (s ++ seqAt pre 0 f) G' W' ∧ IterAt w0.heap.size pp py pa l pre pv' G' W' ∧ Below w0.heap.size W W') ∨
        (e = .returned (.bool false) ∧ ∃ s', s' <+: s ++ seqAt pre 0 f ∧ Jx s' W') := by
  intro q
  induction q using Nat.strongRecOn with
  | ind q ih =>
    intro f v pre s pv0 G W m hq hpl hl hbw hin hpf hj hit
    have HPF := Lib.hid hpf
    clear hpf
    have HL := Lib.hid hl
    have IH := Lib.hid ih
    have HY := Lib.hid hY
    have HJ := Lib.hid hJ
    have HJS := Lib.hid hJs
    have HIN := Lib.hid hin
    have hlen := lies_len hl
    obtain ⟨a, cap, rfl⟩ := lies_form hl
    clear hl ih hY hJ hJs hin
    have hkW : Below w0.heap.size W W := Below.refl _ _
    obtain ⟨i0, hi, hz0, hz1, hz2⟩ := info_parts info_int
    refine callsIn_of_wp Tryz.func124 rfl trivial ?_ rfl
    simp only [Tryz.ntmps124, List.size_toArray, List.length_cons, List.length_nil, Nat.reduceAdd, Nat.reduceSub, Array.replicate_succ, Array.replicate_zero, List.push_toArray, List.append_toArray, List.nil_append, List.cons_append]
    gi_wp2_with fail
    gi_loopw [10] (fun i wr => ∃ (k : Nat) (pv : Value) (G' : Nat → Prop), i = .int .i64 k ∧ k ≤ f.len ∧ (∀ j, G' j → G j ∨ W.heap.size ≤ j) ∧ J (s ++ seqAt pre 0 (f.take k)) G' wr ∧ IterAt w0.heap.size pp py pa l pre pv G' wr ∧ Below w0.heap.size W wr) (fun i _ => f.len - (intOf i).toNat)
    case atStart => exact ⟨0, pv0, G, rfl, Nat.zero_le _, fun _ h => .inl h, by simpa [Fo.take, seqAt] using hj, hit, hkW⟩
    case round =>
      obtain ⟨k, pv, G', rfl, hk, hG', hj', hit', hbr⟩ := hrel
      clear hj hit
      by_cases hlt : k < f.len
      · obtain ⟨b, o, cap', hs, hcap, -, hb, hrow⟩ := lies_row HL.out (by omega)
        simp only [Value.slice.injEq] at hs
        obtain ⟨rfl, -, rfl⟩ := hs
        obtain ⟨hd, ks, e, ⟨d0, d1, ⟨va, d2, ha⟩, d3, d4, d5⟩, vk, d6, hlk⟩ := row_get hrow hlt
        have hb0 : Below w0.heap.size w0 wr := hbw.trans hbr
        have c0 := (hb0.cell (p := ⟨b, o + k * 7, none⟩) hb).trans d0
        have c1 := (hb0.cell (p := ⟨b, o + k * 7 + 1, none⟩) hb).trans d1
        have c2 := (hb0.cell (p := ⟨b, o + k * 7 + 2, none⟩) hb).trans d2
        have c3 := (hb0.cell (p := ⟨b, o + k * 7 + 3, none⟩) hb).trans d3
        have c4 := (hb0.cell (p := ⟨b, o + k * 7 + 4, none⟩) hb).trans d4
        have c5 := (hb0.cell (p := ⟨b, o + k * 7 + 5, none⟩) hb).trans d5
        have c6 := (hb0.cell (p := ⟨b, o + k * 7 + 6, none⟩) hb).trans d6
        have hsz : w0.heap.size ≤ wr.heap.size := hb0.size
        have hbr' : b < wr.heap.size := by omega
        have HSEQ := Lib.hid (seqAt_take_succ pre 0 e)
        have HSEQ2 := Lib.hid (show ∀ x ∈ seqAt pre 0 (f.take (k + 1)), x ∈ seqAt pre 0 f from fun x hx => seqAt_take_mem hx)
        have hks := kid_size e
        obtain ⟨aa, ca, rfl⟩ := attrs_form ha
        obtain ⟨ak, ck, rfl⟩ := lies_form hlk
        have hppz := hit'.box.lt
        have hcp := hit'.box.cell
        have HJ2 := Lib.hid hj'
        have HG2 := Lib.hid hG'
        have HIT := Lib.hid hit'
        have HLK := Lib.hid hlk
        have HA := Lib.hid ha
        have HR := Lib.hid hit'.row
        have hpl' : pre.length + 1 ≤ 1000000 := by omega
        have hc5 : w0.heap.size ≤ wr.heap.size + 1 + 1 := by omega
        clear e hrow hj' hG' hit' hlk ha d0 d1 d2 d3 d4 d5 d6
        gi_wp2_with (gi_at_builtin; refine wpListIn_append_own_at _ rfl _ _ 41 rfl w0.heap.size 3 i0 (.int .i64 0) 1 8 Tryz.underlying41 hi hz0 hz1 hz2 rfl (by decide) _ _ _ rfl ((HR.out.alloc _).alloc _) ⟨wr.heap.size + 1, 0, none⟩ 1 1 [.int .i64 k] rfl rfl (by simpa using cell_one_new (wr.alloc _) (.int .i64 k) 3) (by simp [Value.oneCell']) (by unfold maxLen; omega) (by omega) (by simp; omega) ?stop)
        case stop =>
          intro v' w2 hown hgrow _ hat
          obtain ⟨g', capp, rfl⟩ := ownsRow_succ hown
          obtain ⟨q1, q2, q3, q4, q5, q6, q7⟩ := HIT.out.append (HJS.out _ _ _ HJ2.out) hsz hown hgrow (by simpa using hat)
          have hcp2 := q1.cell
          have hfp2 := q1.frozen
          have n2 := boxed_ne q2.y q2.box (by decide)
          have hcy2 := (boxed_of q2.y (Below.heap_setCell _ ⟨pp, 0, none⟩ _ _ n2).symm).cell
          have J3 := HJ.out _ _ _ _ HJ2.out q3
          have B3 : Below w0.heap.size w0 (w2.setCell ⟨pp, 0, none⟩ (.slice (some ⟨g', 0, none⟩) (pre.length + 1) capp)) := hb0.trans q4
          have E3 : EncVis f0 w0 ⟨pre ++ [k], hd, ks⟩ #[.slice (some ⟨g', 0, none⟩) (pre.length + 1) capp, .agg #[.int .i64 hd.k, .string ⟨hd.l.toArray⟩, .slice aa hd.ats.length ca, .int .i64 hd.n, .int .i64 hd.d, .string ⟨hd.x.toArray⟩, .slice ak ks.len ck]] (w2.setCell ⟨pp, 0, none⟩ (.slice (some ⟨g', 0, none⟩) (pre.length + 1) capp)) := ⟨_, _, rfl, (by simpa using path_lies q2.row), ⟨_, _, rfl, HA.out, HLK.out⟩, HIN.out _ (HSEQ2.out _ (by rw [HSEQ.out]; simp))⟩
          obtain ⟨fn, tmps, assign, body, hyy, hR⟩ := HY.out (m - 1) _ _ _ _ _ J3 (pre_step (by rw [HSEQ.out, Nat.zero_add]) (seqAt_take_prefix f (k + 1) pre 0) HPF.out) E3
          have t0 : w2.cell? ⟨wr.heap.size, 0, none⟩ = _ := cell_of_block q5 rfl
          have t1 : w2.cell? ⟨wr.heap.size, 1, none⟩ = _ := cell_of_block q5 rfl
          have t2 : w2.cell? ⟨wr.heap.size, 2, none⟩ = _ := cell_of_block q5 rfl
          have t3 : w2.cell? ⟨wr.heap.size, 3, none⟩ = _ := cell_of_block q5 rfl
          have t4 : w2.cell? ⟨wr.heap.size, 4, none⟩ = _ := cell_of_block q5 rfl
          have t5 : w2.cell? ⟨wr.heap.size, 5, none⟩ = _ := cell_of_block q5 rfl
          have t6 : w2.cell? ⟨wr.heap.size, 6, none⟩ = _ := cell_of_block q5 rfl
          have nb1 : ¬ wr.heap.size = pp := by omega
          have nb2 : ¬ pp = wr.heap.size := by omega
          have n3 : ¬ py = pp := n2
          have n4 : ¬ pp = py := fun e => n2 e.symm
          have HQ2 := Lib.hid q2
          have HQ3 := Lib.hid q3
          have HQ4 := Lib.hid q4
          have HQ5 := Lib.hid q5
          have HJ3 := Lib.hid J3
          clear q1 q2 q3 q4 q5 hown hgrow hat J3 E3 n2
          gi_wp2_with fail
          refine ⟨fun h => (by cases h), hR.mono ?_⟩
          rintro e W4 (⟨rfl, G2, hG2, hJ4, hbut, hbl⟩ | ⟨rfl, hJx⟩)
          · have it4 := HQ2.out.round hbut hG2
            have hca4 := it4.a.cell
            have tb4 : W4.heap[wr.heap.size]? = w2.heap[wr.heap.size]? := (hbut.block _ (by simp; omega) (fun h => by have := HJS.out _ _ _ HJ2.out _ h; omega)).trans (Below.heap_setCell _ _ _ _ (by simpa using nb1))
            have t46 : W4.cell? ⟨wr.heap.size, 6, none⟩ = _ := cell_of_block (tb4.trans HQ5.out) rfl
            have B4 : Below w0.heap.size w0 W4 := B3.trans hbl
            have N4 := Lib.hid (IH.out ks.size (by omega) ks (.slice ak ks.len ck) (pre ++ [k]) _ _ G2 W4 (m - 1) (Nat.le_refl _) (by simp; omega) HLK.out B4 (fun x hx => HIN.out _ (HSEQ2.out _ (by rw [HSEQ.out]; simp at hx ⊢; exact .inr (.inr hx)))) (pre_kids (by rw [HSEQ.out, Nat.zero_add]) (seqAt_take_prefix f (k + 1) pre 0) HPF.out) hJ4 it4)
            clear hJ4 it4 hyy hR
            have HB4 := Lib.hid (HQ4.out.trans hbl)
            have HG4 := Lib.hid (show ∀ j, G2 j → G j ∨ W.heap.size ≤ j from fun j h => (hG2 j h).elim (HG2.out j) fun h' => .inr (by have := hbr.size; have := HQ4.out.size; omega))
            gi_wp2_with fail
            refine ⟨trivial, fun h => (by cases h), N4.out.mono ?_⟩
            rintro e W5 (⟨rfl, pv5, G3, hG3, hJ5, it5, hbl5⟩ | ⟨rfl, s', hs', hJx⟩)
            · have r5 : W5.ownsRow w0.heap.size 3 1 pv5 (pre.length + 1) (pathVals (pre ++ [k])) := by simpa using it5.row
              obtain ⟨g5, c5', rfl⟩ := ownsRow_succ r5
              have rc5 := row_cap r5
              have hp5 := it5.box.cell
              have hf5 := it5.box.frozen
              have HIP := Lib.hid it5.pop
              have HGP := Lib.hid it5.gp
              have HJ5 := Lib.hid hJ5
              have HB5 := Lib.hid (((hbr.trans HB4.out).trans hbl5).setCell (p := ⟨pp, 0, none⟩) it5.np (.slice (some ⟨g5, 0, none⟩) pre.length c5'))
              have HG5 := Lib.hid (show ∀ j, G3 j → G j ∨ W.heap.size ≤ j from fun j h => (hG3 j h).elim (HG4.out j) fun h' => .inr (by have := hbr.size; have := HB4.out.size; omega))
              clear hJ5 it5 N4 r5 hG3 hbl5
              gi_wp2_with fail
              go_roundw
              case rel => exact ⟨k + 1, _, G3, by go_num, by omega, HG5.out, HJ.out _ _ _ _ (by
                have := HJ5.out
                rw [HSEQ.out]
                simpa using this) (Spared.setCell _ HGP.out _), HIP.out, HB5.out⟩
              case measure => simp [intOf]; omega
            · have HXX := Lib.hid hJx
              have HP := Lib.hid hs'
              clear hJx hs' N4
              gi_wp2_with fail
              go_ret
              exact .inr ⟨rfl, s', HP.out.trans (by
                obtain ⟨t, ht⟩ := seqAt_take_prefix f (k + 1) pre 0
                exact ⟨t, by rw [← ht, HSEQ.out]; simp⟩), HXX.out⟩
          · have HXX := Lib.hid hJx
            clear hJx hyy hR
            gi_wp2_with fail
            refine ⟨fun _ h => (by cases h), ?_⟩
            gi_wp2_with fail
            go_ret
            exact .inr ⟨rfl, _, (by
                obtain ⟨t, ht⟩ := seqAt_take_prefix f (k + 1) pre 0
                exact ⟨seqAt (pre ++ [k]) 0 ks ++ t, by rw [← ht, HSEQ.out]; simp⟩), HXX.out⟩
      · have HX := Lib.hid (show f.take k = f by rw [show k = f.len by omega, Fo.take_len])
        have HJ2 := Lib.hid hj'
        have HG2 := Lib.hid hG'
        have HI2 := Lib.hid hit'
        clear hj' hG' hit'
        gi_wp2_with fail
        go_ret
        exact .inl ⟨rfl, pv, G', HG2.out, by rw [HX.out] at HJ2; exact HJ2.out, HI2.out, hbr⟩

/-- the forest's trees, as the statement takes them. -/
theorem trees_seqN (f : Fo) (v : Value) (w0 : World) (bf : Nat) (hl : Lies w0 v f) (hs : f.size ≤ 1000000) :
    SeqOwnN Tryz.prog 123 #[.pointer (some ⟨bf, 0, none⟩)] (EncVis f w0) (fun xs => xs = seqAt [] 0 f) (fun pre => pre <+: seqAt [] 0 f) w0.heap.size
      (fun W => Below w0.heap.size w0 W ∧ W.cell? ⟨bf, 0, none⟩ = some v) := by
  intro m l J Jx G W ⟨hb, hc⟩ hJ hJs hY _ h0
  have HL := Lib.hid hl
  have HY := Lib.hid hY
  have HJ := Lib.hid hJ
  have HJS := Lib.hid hJs
  have H0 := Lib.hid h0
  clear hl hY hJ hJs h0
  have hbf : bf < W.heap.size := blk_lt hc
  refine callsIn_of_wp Tryz.func123 rfl trivial ?_ rfl
  simp only [Tryz.ntmps123, List.size_toArray, List.length_cons, List.length_nil, Nat.reduceAdd, Nat.reduceSub, Array.replicate_succ, Array.replicate_zero, List.push_toArray, List.append_toArray, List.nil_append, List.cons_append]
  have hbf1 : bf < W.heap.size + 1 := by omega
  have hbf2 : bf < W.heap.size + 1 + 1 := by omega
  have n1 : ¬ bf = W.heap.size := by omega
  have n2 : ¬ bf = W.heap.size + 1 := by omega
  have n3 : ¬ bf = W.heap.size + 1 + 1 := by omega
  gi_wp2_with fail
  obtain ⟨W3, hW3⟩ : ∃ W3, ((W.alloc (.cells #[.func (.yield l) #[] #[]] 128)).alloc (.cells #[.slice none 0 0] 41)).alloc (.cells #[.func (.func 124) #[] #[.pointer (some ⟨W.heap.size + 1, 0, none⟩), .pointer (some ⟨W.heap.size, 0, none⟩), .pointer (some ⟨W.heap.size + 1 + 1, 0, none⟩)]] 30) = W3 := ⟨_, rfl⟩
  have hz := hb.size
  have hG := HJS.out _ _ _ H0.out
  have b1 : Boxed W3 W.heap.size 128 (.func (.yield l) #[] #[]) := by rw [← hW3]; exact ((Boxed.new W _ _).alloc _).alloc _
  have b2 : Boxed W3 (W.heap.size + 1) 41 (.slice none 0 0) := by
    rw [← hW3]
    have := Boxed.new (W.alloc (.cells #[.func (.yield l) #[] #[]] 128)) 41 (.slice none 0 0)
    rw [World.size_alloc] at this
    exact this.alloc _
  have b3 : Boxed W3 (W.heap.size + 1 + 1) 30 (.func (.func 124) #[] #[.pointer (some ⟨W.heap.size + 1, 0, none⟩), .pointer (some ⟨W.heap.size, 0, none⟩), .pointer (some ⟨W.heap.size + 1 + 1, 0, none⟩)]) := by
    rw [← hW3]
    have := Boxed.new ((W.alloc (.cells #[.func (.yield l) #[] #[]] 128)).alloc (.cells #[.slice none 0 0] 41)) 30 (.func (.func 124) #[] #[.pointer (some ⟨W.heap.size + 1, 0, none⟩), .pointer (some ⟨W.heap.size, 0, none⟩), .pointer (some ⟨W.heap.size + 1 + 1, 0, none⟩)])
    rw [World.size_alloc, World.size_alloc] at this
    exact this
  have sp : Spared G W W3 := by
    rw [← hW3]
    exact ((Spared.alloc hG _).trans (Spared.alloc (fun k hk => by have := hG k hk; simp; omega) _)).trans (Spared.alloc (fun k hk => by have := hG k hk; simp; omega) _)
  have bl : Below w0.heap.size W W3 := by
    rw [← hW3]
    exact (((Below.refl _ _).alloc hz _).alloc (by simp; omega) _).alloc (by simp; omega) _
  have it : IterAt w0.heap.size (W.heap.size + 1) W.heap.size (W.heap.size + 1 + 1) l [] (.slice none 0 0) G W3 :=
    ⟨b2, World.ownsRow_nil _ _ _ _, fun k hk => by simp [Value.ownBlock] at hk, b1, b3, fun h => by have := hG _ h; omega, fun h => by have := hG _ h; omega, fun h => by have := hG _ h; omega, by omega⟩
  rw [hW3]
  refine ⟨trivial, fun h => (by cases h), (all_iterN f w0 l _ _ _ J Jx HJ.out HJS.out HY.out f.size f v [] [] _ G W3 (m - 1) (Nat.le_refl _) (by simpa using hs) HL.out (hb.trans bl) (fun x hx => hx) ⟨[], by simp⟩ (HJ.out _ _ _ _ H0.out sp) it).mono ?_⟩
  rintro e W5 (⟨rfl, pv5, G3, hG3, hJ5, it5, hbl5⟩ | ⟨rfl, s', hs', hJx⟩)
  · have H5 := Lib.hid hJ5
    clear hJ5
    gi_wp2_with fail
    go_end0
    exact ⟨⟨_, rfl⟩, .inl ⟨_, _, rfl, by simpa using H5.out⟩⟩
  · have H5 := Lib.hid hJx
    have H6 := Lib.hid hs'
    clear hJx hs'
    gi_wp2_with fail
    go_end0
    exact ⟨⟨_, rfl⟩, .inr ⟨_, by simpa using H6.out, H5.out⟩⟩
end Go.Proofs.YtcgedpfolloinaaGreat

namespace Go.Proofs.YtcgedpfolloinaaGreat
open Go.RowKit Go.Shelf
attribute [local go_sem] Oper.semAt_some

theorem info_ints2 : (Tryz.prog.info? 41).map (fun i => (i.zero, i.size, i.bytes)) = some (some (.slice none 0 0), 1, 24) := by kernel_rfl
/-- the paths of the trees that are wanted. -/
def selP (sel : Vis → Bool) (xs : List Vis) : List (List Nat) := (xs.filter sel).map (·.p)
theorem selP_yes {sel : Vis → Bool} {pre : List Vis} {x : Vis} (h : sel x = true) : selP sel (pre ++ [x]) = selP sel pre ++ [x.p] := by simp [selP, h]
theorem selP_no {sel : Vis → Bool} {pre : List Vis} {x : Vis} (h : sel x = false) : selP sel (pre ++ [x]) = selP sel pre := by simp [selP, h]
theorem path_ne : ∀ {f : Fo} {pre : List Nat} {i : Nat} {x : Vis}, x ∈ seqAt pre i f → x.p ≠ []
  | .nil, _, _, _, h => by simp [seqAt] at h
  | .cons h ks r, pre, i, x, hx => by
    simp only [seqAt, List.mem_cons, List.mem_append] at hx
    rcases hx with rfl | hx | hx
    · simp
    · exact path_ne hx
    · exact path_ne hx
inductive All2 {α β : Type} (R : α → β → Prop) : List α → List β → Prop
  | nil : All2 R [] []
  | cons {a : α} {b : β} {l : List α} {m : List β} : R a b → All2 R l m → All2 R (a :: l) (b :: m)
/-- a path in a block of its own. -/
def PathIn (B : Nat) (G : Nat → Prop) (g : Option Nat) (W : World) (p : List Nat) (c : Value) : Prop :=
  ∃ b off cp, c = .slice (some ⟨b, off, none⟩) p.length cp ∧ p.length ≤ cp ∧ B ≤ b ∧ b < W.heap.size ∧ G b ∧ g ≠ some b ∧ ∀ k, k < p.length → W.cell? ⟨b, off + k, none⟩ = some (.int .i64 ((p.getD k 0 : Nat) : Int))
theorem PathIn.next {B : Nat} {G G' : Nat → Prop} {g g' : Option Nat} {W W' : World} {p : List Nat} {c : Value} (h : PathIn B G g W p c) (hG : ∀ k, G k → G' k) (hs : W.heap.size ≤ W'.heap.size)
    (hk : ∀ k, B ≤ k → G k → k < W.heap.size → g ≠ some k → W'.heap[k]? = W.heap[k]?) (hg : ∀ k, G k → k < W.heap.size → g ≠ some k → g' ≠ some k) : PathIn B G' g' W' p c := by
  obtain ⟨b, off, cp, h1, h2, h3, h4, h5, h6, h7⟩ := h
  exact ⟨b, off, cp, h1, h2, h3, by omega, hG b h5, hg b h5 h4 h6, fun k hk' => (World.cell?_of_block (w := W) (hk b h3 h5 h4 h6)).trans (h7 k hk')⟩
theorem forall2_next {α β : Type} {R S : α → β → Prop} (h : ∀ a b, R a b → S a b) : ∀ {l : List α} {m : List β}, All2 R l m → All2 S l m
  | _, _, .nil => .nil
  | _, _, .cons h1 h2 => .cons (h _ _ h1) (forall2_next h h2)
theorem forall2_snoc {α β : Type} {R : α → β → Prop} {a : α} {b : β} (hab : R a b) : ∀ {l : List α} {m : List β}, All2 R l m → All2 R (l ++ [a]) (m ++ [b])
  | _, _, .nil => .cons hab .nil
  | _, _, .cons h1 h2 => .cons h1 (forall2_snoc hab h2)

/-- what the search holds behind so many trees. -/
structure PxI (w : World) (fn : Value) (sel : Vis → Bool) (pre : List Vis) (G : Nat → Prop) (W : World) : Prop where
  lo : ∀ k, k < w.heap.size + 3 → G k
  bd : ∀ k, G k → k < W.heap.size
  kw : W.heap[w.heap.size]? = some (.cells #[fn] 109)
  row : ∃ a c cs, W.heap[w.heap.size + 1]? = some (.cells #[.slice a (selP sel pre).length c] 49) ∧ W.ownsRow (w.heap.size + 3) 41 1 (.slice a (selP sel pre).length c) (selP sel pre).length cs ∧
    (∀ k, (Value.slice a (selP sel pre).length c).ownBlock = some k → G k) ∧ All2 (PathIn (w.heap.size + 3) G (Value.slice a (selP sel pre).length c).ownBlock W) (selP sel pre) cs
  bel : Below w.heap.size w W
theorem PxI.spared {w : World} {fn : Value} {sel : Vis → Bool} {pre : List Vis} {G : Nat → Prop} {W W' : World} (h : PxI w fn sel pre G W) (sp : Spared G W W') : PxI w fn sel pre G W' := by
  obtain ⟨lo, bd, kw, ⟨a, c, cs, kl, own, ob, rows⟩, bel⟩ := h
  have hs := sp.size
  refine ⟨lo, fun k hk => Nat.lt_of_lt_of_le (bd k hk) hs, (sp.block _ (lo _ (by omega))).trans kw, ⟨a, c, cs, (sp.block _ (lo _ (by omega))).trans kl, ?_, ob, forall2_next (fun p c hp => hp.next (fun _ h => h) hs (fun k _ hg _ _ => sp.block k hg) (fun _ _ _ h => h)) rows⟩, bel.trans ⟨sp.os, sp.tape, sp.output, hs, fun k hk => sp.block k (lo k (by omega))⟩⟩
  refine ⟨own.1, ?_⟩
  rcases own.2 with hn | ⟨g, cap, cur, hv, hbg, hg, rest⟩
  · exact .inl hn
  · exact .inr ⟨g, cap, cur, hv, hbg, (sp.block g (ob g (by rw [hv]; rfl))).trans hg, rest⟩
theorem PxI.put {w : World} {fn : Value} {sel : Vis → Bool} {pre : List Vis} {G : Nat → Prop} {W : World} (h : PxI w fn sel pre G W) {l : Nat} {o o' : Obj} (hl : W.heap[l]? = some o) (ho : o.isCells = false) (hw : w.heap.size + 3 ≤ l) : PxI w fn sel pre G (W.putObj l o') := by
  obtain ⟨lo, bd, kw, ⟨a, c, cs, kl, own, ob, rows⟩, bel⟩ := h
  have hz : (W.putObj l o').heap.size = W.heap.size := by simp
  have nb : ∀ b off v, W.cell? ⟨b, off, none⟩ = some v → b ≠ l := by
    rintro b off v hc rfl
    simp only [World.cell?, hl] at hc
    cases o <;> simp [Obj.isCells] at ho hc
  have hb : ∀ k, k < w.heap.size + 3 → (W.putObj l o').heap[k]? = W.heap[k]? := fun k hk => World.putObj_heap_other (by omega)
  refine ⟨lo, fun k hk => by rw [hz]; exact bd k hk, (hb _ (by omega)).trans kw, ⟨a, c, cs, (hb _ (by omega)).trans kl, ?_, ob, ?_⟩, bel.trans ⟨rfl, rfl, rfl, by rw [hz]; exact Nat.le_refl _, fun k hk => hb k (by omega)⟩⟩
  · refine ⟨own.1, ?_⟩
    rcases own.2 with hn | ⟨g, cap, cur, hv, hbg, hg, rest⟩
    · exact .inl hn
    · refine .inr ⟨g, cap, cur, hv, hbg, (World.putObj_heap_other ?_).trans hg, rest⟩
      rintro rfl
      rw [hl] at hg
      cases hg
      simp [Obj.isCells] at ho
  · refine forall2_next (fun p c hp => ?_) rows
    obtain ⟨b, off, cp, h1, h2, h3, h4, h5, h6, h7⟩ := hp
    refine ⟨b, off, cp, h1, h2, h3, by rw [hz]; exact h4, h5, h6, fun k hk => ?_⟩
    have := h7 k hk
    rw [World.cell?_of_block (w := W) (World.putObj_heap_other (nb _ _ _ this))]
    exact this

theorem wpIn_append_at {F : Fence} {n : Nat} {P : Program} (w : World) {o : Oper} {a : Act} {K : Act → World → Prop} {Q : Exit → Act → World → Prop} (s x : Operand) (t : TypeId)
    (hop : o.op = .call { callee := .builtin .append, args := #[s, x], argTypes := #[t, t] })
    (base : Nat) (e : TypeId) (i : TypeInfo) (z : Value) (size bytes : Nat) (ht : P.underlying t = some (.slice e)) (hi : P.info? e = some i) (hz : i.zero = some z)
    (hsize : i.size = size) (hby : i.bytes = bytes) (hzs : z.cells.size = size) (hsz : 0 < size)
    (v : Value) (k : Nat) (xs : List Value) (hs : a.eval s = v) (hown : w.ownsRow base e size v k xs)
    (ad : Addr) (m c : Nat) (news : List Value) (hx : a.eval x = .slice (some ad) m c) (hl : news.length = m * size) (hnews : ∀ j u, news[j]? = some u → w.cell? (ad.add j) = some u) (h1 : ∀ u ∈ news, u.oneCell' = true)
    (h63 : k + m ≤ maxLen) (hbytes : (k + m) * bytes ≤ 140737488355328) (hbase : base ≤ w.heap.size)
    (h : ∀ v' w', w'.ownsRow base e size v' (k + m) (xs ++ news) → w.grownBy w' v.ownBlock → (v'.ownBlock = v.ownBlock ∨ v'.ownBlock = some w.heap.size) → K (a.put o.dst v') w') : o.wpIn F n P a w K Q := by
  obtain ⟨v', w', hrun, r1, r2, -, r4⟩ := run_append_own_at (P := P) (w := w) base t o.type e i z size bytes ht hi hz hsize hby hzs hsz v k xs hown ad m c news hl hnews h1 h63 hbytes hbase
  unfold Oper.wpIn
  refine ⟨?_, ?_⟩
  · simp [Oper.about, hop, resolve, Target.leads, Sem.run_pure]
  · rw [Oper.semAt_plain F _ _ (by rw [hop]; intro c hc'; cases hc')]
    simp [execOp, hop, resolve, invoke, builtin, hs, hx, hrun, Result.andThen]
    exact h v' w' r1 r2 r4
theorem owns_belowV {v w : World} {base size n : Nat} {e : TypeId} {u : Value} {xs : List Value} (ho : v.ownsRow base e size u n xs) (h : Below v.heap.size v w) : w.ownsRow base e size u n xs := by
  refine ⟨ho.1, ?_⟩
  rcases ho.2 with hn | ⟨g, cap, cur, hv, hbg, hg, rest⟩
  · exact .inl hn
  · exact .inr ⟨g, cap, cur, hv, hbg, (h.block g (Array.getElem?_eq_some_iff.1 hg).1).trans hg, rest⟩

/-- a path, and paths, in memory of their own. -/
def PathAt (B : Nat) (W : World) (p : List Nat) (c : Value) : Prop := ∃ a cp, c = .slice a p.length cp ∧ IntsF B W (.slice a p.length cp) (pathInts p)
def PathsF (B : Nat) (W : World) (v : Value) (ps : List (List Nat)) : Prop :=
  ∃ a c, v = .slice a ps.length c ∧ (ps = [] ∨ ∃ b, a = some ⟨b, 0, none⟩ ∧ ps.length ≤ c ∧ B ≤ b ∧ b < W.heap.size ∧ ∀ k, k < ps.length → ∃ c', W.cell? ⟨b, k, none⟩ = some c' ∧ PathAt B W (ps.getD k []) c')
theorem all2_get {α β : Type} {R : α → β → Prop} {d : α} : ∀ {l : List α} {m : List β}, All2 R l m → ∀ k, k < l.length → ∃ c, m[k]? = some c ∧ R (l.getD k d) c
  | _, _, .nil, k, h => by simp at h
  | _, _, .cons h1 _, 0, _ => ⟨_, rfl, h1⟩
  | _, _, .cons _ h2, k + 1, h => by
    obtain ⟨c, e, hr⟩ := all2_get (d := d) h2 k (by simpa using h)
    exact ⟨c, by simpa using e, by simpa using hr⟩
theorem PxI.paths {w : World} {fn : Value} {sel : Vis → Bool} {pre : List Vis} {G : Nat → Prop} {W : World} (h : PxI w fn sel pre G W) :
    ∃ a c, W.cell? ⟨w.heap.size + 1, 0, none⟩ = some (.slice a (selP sel pre).length c) ∧ PathsF w.heap.size W (.slice a (selP sel pre).length c) (selP sel pre) := by
  obtain ⟨lo, bd, kw, ⟨a, c, cs, kl, own, ob, rows⟩, bel⟩ := h
  refine ⟨a, c, cell_of_block kl rfl, a, c, rfl, ?_⟩
  rcases own.2 with ⟨e, h0⟩ | ⟨g, cap, cur, e, hb, hg, hn, hc, hsz, ht⟩
  · exact .inl (List.eq_nil_of_length_eq_zero h0)
  · simp only [Value.slice.injEq] at e
    obtain ⟨rfl, -, rfl⟩ := e
    refine .inr ⟨g, rfl, hn, by omega, (Array.getElem?_eq_some_iff.1 hg).1, fun k hk => ?_⟩
    obtain ⟨c', e1, b, off, cp, e2, h2, h3, h4, h5, h6, h7⟩ := all2_get (d := []) rows k hk
    refine ⟨c', ?_, some ⟨b, off, none⟩, cp, e2, .inr ⟨b, off, cp, by simp, by simpa using h2, by omega, h4, fun j hj => ?_⟩⟩
    · have := own.cells (g := g) rfl k c' e1
      rw [Go.WideShapes.add_plain] at this
      simpa using this
    · generalize (selP sel pre).getD k [] = p at *
      have hj' : j < p.length := by simpa using hj
      rw [h7 j hj', List.getD_eq_getElem?_getD, List.getD_eq_getElem?_getD, List.getElem?_map, List.getElem?_eq_getElem hj']
      rfl

/-- one path more. -/
theorem paths_step {w : World} {fn : Value} {sel : Vis → Bool} {pre : List Vis} {x : Vis} {G : Nat → Prop} {X w4 w6 : World} {ar : Option Addr} {cr : Nat} {cs : List Value} {a4 : Option Addr} {c4 g' cap' : Nat}
    (lo : ∀ k, k < w.heap.size + 3 → G k) (bd : ∀ k, G k → k < X.heap.size) (kw : X.heap[w.heap.size]? = some (.cells #[fn] 109))
    (kl : X.heap[w.heap.size + 1]? = some (.cells #[.slice ar (selP sel pre).length cr] 49))
    (ob : ∀ k, (Value.slice ar (selP sel pre).length cr).ownBlock = some k → G k) (rows : All2 (PathIn (w.heap.size + 3) G (Value.slice ar (selP sel pre).length cr).ownBlock X) (selP sel pre) cs)
    (own : X.ownsRow (w.heap.size + 3) 41 1 (.slice ar (selP sel pre).length cr) (selP sel pre).length cs)
    (bel : Below w.heap.size w X) (hsel : sel x = true) (hne : x.p ≠ []) (hb4 : Below X.heap.size X w4) (hi4 : IntsF X.heap.size w4 (.slice a4 x.p.length c4) (pathInts x.p))
    (hown' : w6.ownsRow (w.heap.size + 3) 41 1 (.slice (some ⟨g', 0, none⟩) ((selP sel pre).length + 1) cap') ((selP sel pre).length + 1) (cs ++ [.slice a4 x.p.length c4]))
    (hgrow : (w4.alloc (.cells #[.slice a4 x.p.length c4] 41)).grownBy w6 (Value.slice ar (selP sel pre).length cr).ownBlock)
    (hat : (Value.slice (some ⟨g', 0, none⟩) ((selP sel pre).length + 1) cap').ownBlock = (Value.slice ar (selP sel pre).length cr).ownBlock ∨ (Value.slice (some ⟨g', 0, none⟩) ((selP sel pre).length + 1) cap').ownBlock = some (w4.alloc (.cells #[.slice a4 x.p.length c4] 41)).heap.size) :
    w6.heap[w.heap.size + 1]? = some (.cells #[.slice ar (selP sel pre).length cr] 49) ∧
    But G X (w6.setCell ⟨w.heap.size + 1, 0, none⟩ (.slice (some ⟨g', 0, none⟩) ((selP sel pre).length + 1) cap')) ∧
    Below w.heap.size X (w6.setCell ⟨w.heap.size + 1, 0, none⟩ (.slice (some ⟨g', 0, none⟩) ((selP sel pre).length + 1) cap')) ∧
    PxI w fn sel (pre ++ [x]) (fun k => G k ∨ X.heap.size ≤ k ∧ k < w6.heap.size) (w6.setCell ⟨w.heap.size + 1, 0, none⟩ (.slice (some ⟨g', 0, none⟩) ((selP sel pre).length + 1) cap')) := by
  generalize hgo : (Value.slice ar (selP sel pre).length cr).ownBlock = go at *
  have hs4 := hb4.size
  have hs5 : (w4.alloc (.cells #[.slice a4 x.p.length c4] 41)).heap.size = w4.heap.size + 1 := by simp
  rw [hs5] at hat
  have hs6 := hgrow.size
  rw [hs5] at hs6
  have hwX := bel.size
  have l2 : w.heap.size + 2 < X.heap.size := bd _ (lo _ (by omega))
  have golt : ∀ k, go = some k → k < X.heap.size ∧ w.heap.size + 3 ≤ k := fun k hk => ⟨bd k (ob k hk), by
    rcases own.2 with ⟨e, _⟩ | ⟨g, cap, cur, e, hb, _⟩
    · rw [e] at hgo; rw [← hgo] at hk; cases hk
    · rw [e] at hgo; rw [← hgo] at hk; cases hk; exact hb⟩
  have kb : ∀ k, k < X.heap.size → go ≠ some k → w6.heap[k]? = X.heap[k]? := fun k hk hn => by
    rw [hgrow.block k (by rw [hs5]; omega) (fun e => hn e.symm), Below.heap_alloc _ _ k (by omega)]
    exact hb4.block k hk
  have kl6 : w6.heap[w.heap.size + 1]? = some (.cells #[.slice ar (selP sel pre).length cr] 49) := (kb _ (by omega) (fun e => by have := golt _ e; omega)).trans kl
  have kw6 := (kb _ (by omega) (fun e => by have := golt _ e; omega)).trans kw
  have hg' : go = some g' ∨ g' = w4.heap.size + 1 := by
    rcases hat with e | e
    · exact .inl (by rw [← e]; rfl)
    · exact .inr (by simpa [Value.ownBlock] using e)
  have hg3 : w.heap.size + 3 ≤ g' := by
    rcases hg' with e | e
    · exact (golt _ e).2
    · omega
  have hb6 : Below w.heap.size X w6 := by
    have h1 := (hb4.alloc (Nat.le_of_lt (by omega) |> fun _ => hs4) (.cells #[.slice a4 x.p.length c4] 41)).mono hwX
    exact h1.grown hgrow (by rw [hs5]; omega) (fun k hk => by have := golt k hk; omega)
  have hset : ∀ k, k ≠ w.heap.size + 1 → (w6.setCell ⟨w.heap.size + 1, 0, none⟩ (.slice (some ⟨g', 0, none⟩) ((selP sel pre).length + 1) cap')).heap[k]? = w6.heap[k]? := fun k hk => set_far hk
  have hsz : (w6.setCell ⟨w.heap.size + 1, 0, none⟩ (.slice (some ⟨g', 0, none⟩) ((selP sel pre).length + 1) cap')).heap.size = w6.heap.size := by simp [World.setCell]
  have hlen : (selP sel (pre ++ [x])).length = (selP sel pre).length + 1 := by rw [selP_yes hsel]; simp
  refine ⟨kl6, ⟨by rw [hsz]; omega, fun k hk hn => ?_⟩, hb6.setCell (p := ⟨w.heap.size + 1, 0, none⟩) (by show w.heap.size ≤ w.heap.size + 1; omega) _, ?_⟩
  · have h1 : k ≠ w.heap.size + 1 := fun e => hn (by rw [e]; exact lo _ (by omega))
    rw [hset k h1]
    exact kb k hk (fun e => hn (ob k e))
  · refine ⟨fun k hk => .inl (lo k hk), fun k hk => ?_, (hset _ (by omega)).trans kw6, ⟨some ⟨g', 0, none⟩, cap', cs ++ [.slice a4 x.p.length c4], ?_, ?_, ?_, ?_⟩, bel.trans (hb6.setCell (p := ⟨w.heap.size + 1, 0, none⟩) (by show w.heap.size ≤ w.heap.size + 1; omega) _)⟩
    · rw [hsz]
      rcases hk with hk | hk
      · have := bd k hk; omega
      · exact hk.2
    · rw [hlen]; exact set_block kl6
    · rw [hlen]
      refine ⟨hown'.1, ?_⟩
      rcases hown'.2 with ⟨e, _⟩ | ⟨g, cap, cur, e, hb, hg, rest⟩
      · cases e
      · cases e
        exact .inr ⟨g', cap', cur, rfl, hb, (hset g' (by omega)).trans hg, rest⟩
    · intro k hk
      cases hk
      rcases hg' with e | e
      · exact .inl (ob _ e)
      · refine .inr ⟨(by show X.heap.size ≤ g'; omega), ?_⟩
        rcases hown'.2 with ⟨e2, _⟩ | ⟨g, cap, cur, e2, hb, hg, rest⟩
        · cases e2
        · cases e2; exact (Array.getElem?_eq_some_iff.1 hg).1
    · rw [selP_yes hsel]
      refine forall2_snoc ?_ (forall2_next (fun p c hp => hp.next (fun k hk => .inl hk) (by rw [hsz]; omega) (fun k h3 hk hl hn => by rw [hset k (by omega)]; exact kb k hl hn) (fun k hk hl hn e => ?_)) rows)
      · have hi7 : IntsF X.heap.size (w6.setCell ⟨w.heap.size + 1, 0, none⟩ (.slice (some ⟨g', 0, none⟩) ((selP sel pre).length + 1) cap')) (.slice a4 x.p.length c4) (pathInts x.p) := by
          refine intsF_keeps hi4 ⟨by rw [hsz]; omega, fun b o h1 h2 => World.cell?_of_block ?_⟩
          rw [hset b (by omega), hgrow.block b (by rw [hs5]; omega) (fun e => by have := golt b e.symm; omega), Below.heap_alloc _ _ b h2]
        rcases hi7 with ⟨_, _, _, h⟩ | ⟨b, off, cap, h1, h2, h3, h4, h5⟩
        · exact absurd (by simpa using h) hne
        · refine ⟨b, off, cap, by rw [h1]; simp, by simpa using h2, by omega, h4, .inr ⟨h3, by rw [hsz] at h4; exact h4⟩, fun e => ?_, fun k hk => ?_⟩
          · cases e
            rcases hi4 with ⟨_, _, _, h⟩ | ⟨b2, off2, cap2, h1', _, h3', h4', _⟩
            · exact absurd (by simpa using h) hne
            · rw [h1'] at h1
              simp only [Value.slice.injEq, Option.some.injEq, Addr.mk.injEq] at h1
              rcases hg' with e | e
              · have := golt _ e; omega
              · omega
          · rw [h5 k (by simpa using hk)]
            simp [List.getD_eq_getElem?_getD, hk]
      · cases e
        have hl' : g' < X.heap.size := hl
        rcases hg' with e | e
        · exact hn e
        · omega

set_option maxRecDepth 100000 in
set_option maxHeartbeats 16000000 in
theorem paths_in (f : Fo) (v : Value) (nf : Nat) (caps : Array Value) (sel : Vis → Bool) (w : World) (hl : Lies w v f) (hs : f.size ≤ 100000) (EN : ∀ args w, (callFunc nf args).run Tryz.prog w = .ok (.enter nf args) w)
    (WC : ∀ (x : Vis) (tv : Value) (W : World), Below w.heap.size w W → TreeAt w tv x.h x.ks → x ∈ seqAt [] 0 f → Calls Tryz.prog nf (#[tv] ++ caps) W fun e w' => e = .returned (.bool (sel x)) ∧ Below W.heap.size W w') :
    CallsIn Fence.wide 4 Tryz.prog 98 #[v, .func (.func nf) #[] caps] w (fun e w' => ∃ v, e = .returned v ∧ PathsF w.heap.size w' v (selP sel (seqAt [] 0 f)) ∧ Below w.heap.size w w') := by
  have HL := Lib.hid hl
  have HWC := Lib.hid WC
  have HEN := Lib.hid EN
  obtain ⟨i0, hi, hz0', hz1, hz2⟩ := info_parts info_ints2
  obtain ⟨a, cap, rfl⟩ := lies_form hl
  clear hl WC EN
  refine callsIn_of_wp_marks Tryz.func98 rfl trivial ?_ rfl
  simp only [Tryz.ntmps98, List.size_toArray, List.length_cons, List.length_nil, Nat.reduceAdd, Nat.reduceSub, Array.replicate_succ, Array.replicate_zero, List.push_toArray, List.append_toArray, List.nil_append, List.cons_append]
  gi_wp2_with (refine ⟨trivial, ?_⟩; gi_at_call 79; refine (trees_in _ _ _ _ _).mono ?_; rintro e w' ⟨rfl, rfl⟩)
  obtain ⟨W0, hW0⟩ : ∃ W0, ((w.alloc (.cells #[.func (.func nf) #[] caps] 109)).alloc (.cells #[.slice none 0 0] 49)).alloc (.cells #[.slice a f.len cap] 28) = W0 := ⟨_, rfl⟩
  have hz0 : W0.heap.size = w.heap.size + 3 := by rw [← hW0]; simp
  have hx0 : Below w.heap.size w W0 := by rw [← hW0]; exact (((Below.refl _ _).alloc (Nat.le_refl _) _).alloc (by simp) _).alloc (by simp; omega) _
  have hk0 : W0.heap[w.heap.size]? = some (.cells #[.func (.func nf) #[] caps] 109) := by
    rw [← hW0]
    exact (Below.heap_alloc _ _ _ (by simp <;> omega)).trans ((Below.heap_alloc _ _ _ (by simp)).trans (World.alloc_heap_new w _))
  have hk1 : W0.heap[w.heap.size + 1]? = some (.cells #[.slice none 0 0] 49) := by
    rw [← hW0]
    exact (Below.heap_alloc _ _ _ (by simp)).trans (by have := World.alloc_heap_new (w.alloc (.cells #[.func (.func nf) #[] caps] 109)) (.cells #[.slice none 0 0] 49); rw [show (w.alloc (.cells #[.func (.func nf) #[] caps] 109)).heap.size = w.heap.size + 1 by simp] at this; exact this)
  have hc0 : W0.cell? ⟨w.heap.size + 1 + 1, 0, none⟩ = some (.slice a f.len cap) := by rw [← hW0]; simp [go_sem]
  have hI0 : PxI w (.func (.func nf) #[] caps) sel [] (fun k => k < w.heap.size + 3) W0 := ⟨fun k hk => hk, fun k hk => by omega, hk0, ⟨none, 0, [], hk1, World.ownsRow_nil _ _ _ _, fun k hk => (by cases hk), .nil⟩, hx0⟩
  rw [hW0]
  clear hW0 hk0 hk1
  refine range_ownN (gf := 123) (lb := #[.pointer (some ⟨w.heap.size + 1 + 1, 0, none⟩)]) rfl (enters_of Tryz.func123 (by kernel_rfl) rfl)
    (trees_seqN f (.slice a f.len cap) w (w.heap.size + 1 + 1) HL.out (by omega)) (by omega) ?st (fun x args W h => by obtain ⟨_, _, rfl, _⟩ := h; rfl)
    (PxI w (.func (.func nf) #[] caps) sel) (fun c pre W => False) (fun k => k < w.heap.size + 3) ?hI ?hIs ?hIx (fun k hk => by omega) hI0
    (fun x a' W => ∃ (b0 : Option Addr) (c0 T : Nat) (aa : Option Addr) (ca : Nat) (ak : Option Addr) (ck : Nat) (pv' tv : Value), x ∈ seqAt [] 0 f ∧ IntsF 0 W (.slice b0 x.p.length c0) (pathInts x.p) ∧ AttrsLie w (.slice aa x.h.ats.length ca) x.h.ats ∧ Lies w (.slice ak x.ks.len ck) x.ks ∧
      W.heap[T]? = some (.cells #[.int .i64 x.h.k, .string ⟨x.h.l.toArray⟩, .slice aa x.h.ats.length ca, .int .i64 x.h.n, .int .i64 x.h.d, .string ⟨x.h.x.toArray⟩, .slice ak x.ks.len ck] 43) ∧
      a' = { tmps := #[.slice a f.len cap, .func (.func nf) #[] caps, undef, .pointer (some ⟨w.heap.size, 0, none⟩), .slice none 0 0, .pointer (some ⟨w.heap.size + 1, 0, none⟩), .slice b0 x.p.length c0, .pointer (some ⟨T, 0, none⟩), .slice a f.len cap, .func (.func 123) #[] #[.pointer (some ⟨w.heap.size + 1 + 1, 0, none⟩)], pv', tv, undef, undef, undef, undef, undef, undef, undef, undef, undef], defers := [] })
    (fun x a' W l o o' hl ho h => by
      obtain ⟨b0, c0, T, aa, ca, ak, ck, pv', tv, h1, h2, h3, h4, h5, h6⟩ := h
      refine ⟨b0, c0, T, aa, ca, ak, ck, pv', tv, h1, intsF_putObj hl ho h2, h3, h4, (World.putObj_heap_other ?_).trans h5, h6⟩
      rintro rfl
      rw [hl] at h5
      cases h5
      simp [Obj.isCells] at ho) ?assign ?body ?done ?stop
  case st =>
    intro o
    refine ⟨hx0.trans ((((Below.refl _ W0).alloc (Nat.le_refl _) _).alloc (by simp) _).mono hx0.size), ?_⟩
    simp [go_sem, hz0, hc0]
  case hI => exact fun s G W W' h sp => h.spared sp
  case hIs => exact fun s G W h k hk => h.bd k hk
  case hIx => exact fun c s W l o o' hl ho hc h => h.elim
  case assign =>
    rintro n' l pre x args G W K hI ⟨pv', tv, rfl, hp, ⟨va, kv, rfl, hta, htk⟩, hx⟩ hz hK
    obtain ⟨b0, c0, rfl⟩ := ints_form hp
    have hp2 := intsF_of hp
    simp only [List.length_map] at hp2 ⊢
    obtain ⟨aa, ca, rfl⟩ := attrs_form hta
    obtain ⟨ak, ck, rfl⟩ := lies_form htk
    clear hp
    gi_wp2
    have hb := (Below.refl W.heap.size W).alloc (Nat.le_refl _) (.cells #[.int .i64 x.h.k, .string ⟨x.h.l.toArray⟩, .slice aa x.h.ats.length ca, .int .i64 x.h.n, .int .i64 x.h.d, .string ⟨x.h.x.toArray⟩, .slice ak x.ks.len ck] 43)
    exact hK _ _ (But.of_below hb) (hb.mono (by have := hI.bel.size; omega)) (hI.spared ⟨hb.os, hb.tape, hb.output, hb.size, fun k hk => hb.block k (hI.bd k hk)⟩) ⟨b0, c0, W.heap.size, aa, ca, ak, ck, _, _, hx, intsF_keeps hp2 (Keeps.of_below hb), hta, htk, World.alloc_heap_new _ _, rfl⟩
  case body =>
    rintro n' l pre x a' G W hI ⟨b0, c0, T, aa, ca, ak, ck, pv', tv, hx, hpi, hta, htk, hT, rfl⟩ hsp hz
    obtain ⟨lo, bd, kw, ⟨ar, cr, cs, kl, own, ob, rows⟩, bel⟩ := hI
    have CW := Lib.hid (HWC.out x (.agg #[.int .i64 x.h.k, .string ⟨x.h.l.toArray⟩, .slice aa x.h.ats.length ca, .int .i64 x.h.n, .int .i64 x.h.d, .string ⟨x.h.x.toArray⟩, .slice ak x.ks.len ck]) W bel ⟨_, _, rfl, hta, htk⟩ hx)
    have q0 : W.cell? ⟨w.heap.size, 0, none⟩ = some (.func (.func nf) #[] caps) := cell_of_block kw rfl
    have t0 : W.cell? ⟨T, 0, none⟩ = some (.int .i64 x.h.k) := cell_of_block hT rfl
    have t1 : W.cell? ⟨T, 1, none⟩ = some (.string ⟨x.h.l.toArray⟩) := cell_of_block hT rfl
    have t2 : W.cell? ⟨T, 2, none⟩ = some (.slice aa x.h.ats.length ca) := cell_of_block hT rfl
    have t3 : W.cell? ⟨T, 3, none⟩ = some (.int .i64 x.h.n) := cell_of_block hT rfl
    have t4 : W.cell? ⟨T, 4, none⟩ = some (.int .i64 x.h.d) := cell_of_block hT rfl
    have t5 : W.cell? ⟨T, 5, none⟩ = some (.string ⟨x.h.x.toArray⟩) := cell_of_block hT rfl
    have t6 : W.cell? ⟨T, 6, none⟩ = some (.slice ak x.ks.len ck) := cell_of_block hT rfl
    gi_wp2_with fail
    rw [HEN.out]
    simp only [Oper.uponIn_enter]
    refine ⟨trivial, fun h => (by cases h), (CallsIn.inRound l (callsIn_wide.2 CW.out)).mono ?_⟩
    rintro e w1 ⟨rfl, hb1⟩
    have hI : PxI w (.func (.func nf) #[] caps) sel pre G W := ⟨lo, bd, kw, ⟨ar, cr, cs, kl, own, ob, rows⟩, bel⟩
    have hI1 := hI.spared ⟨hb1.os, hb1.tape, hb1.output, hb1.size, fun k hk => hb1.block k (bd k hk)⟩
    clear t0 t1 t2 t3 t4 t5 t6 q0 hI
    cases hsel : sel x with
    | false =>
      have HZ := Lib.hid (show PxI w (.func (.func nf) #[] caps) sel (pre ++ [x]) G w1 by
        obtain ⟨lo, bd, kw, row, bel⟩ := hI1
        exact ⟨lo, bd, kw, by rw [selP_no hsel]; exact row, bel⟩)
      clear hI1
      gi_wp2_with fail
      exact ⟨But.of_below hb1, hb1.mono bel.size, G, fun k hk => .inl hk, HZ.out⟩
    | true =>
      obtain ⟨lo, bd, kw, ⟨ar, cr, cs, kl, own, ob, rows⟩, bel1⟩ := hI1
      have HW1 := Lib.hid hb1
      have SZ := Lib.hid bel.size
      clear bel
      have bel := bel1.drew
      have hsl : (selP sel pre).length ≤ 100000 := by
        have h1 := List.IsPrefix.length_le hsp
        rw [seqAt_len] at h1
        have h2 : (selP sel pre).length ≤ pre.length := by unfold selP; rw [List.length_map]; exact List.length_filter_le _ _
        simp at h1
        omega
      clear hsp
      have LO := Lib.hid lo
      have BD := Lib.hid (show ∀ k, G k → k < (World.drew w1).heap.size from bd)
      have KW := Lib.hid (show (World.drew w1).heap[w.heap.size]? = _ from kw)
      have KL := Lib.hid (show (World.drew w1).heap[w.heap.size + 1]? = _ from kl)
      have OB := Lib.hid ob
      have ROWS := Lib.hid (show All2 (PathIn (w.heap.size + 3) G (Value.slice ar (selP sel pre).length cr).ownBlock (World.drew w1)) (selP sel pre) cs from rows)
      have OWN := Lib.hid (show (World.drew w1).ownsRow (w.heap.size + 3) 41 1 (.slice ar (selP sel pre).length cr) (selP sel pre).length cs from own)
      have HNE := Lib.hid (path_ne hx)
      have hpl2 := path_len hx
      have hxl : (pathInts x.p).length ≤ 1000000 := by simp at hpl2 ⊢; omega
      have hpi1 := intsF_keeps hpi (Keeps.of_below hb1 : Keeps 0 W w1)
      have CL := Lib.hid (cloneInts_any (.slice b0 x.p.length c0) (pathInts x.p) (World.drew w1) (intsF_lies hpi1) hxl)
      have hl1 : w.heap.size + 2 < (World.drew w1).heap.size := BD.out _ (LO.out _ (by omega))
      gi_wp2_with fail
      refine wpIn_region_any (by kernel_rfl) ?_
      change wpAnyIn _ _ _ _ _ _ _ _ _ (World.drew _)
      have q1 : (World.drew w1).cell? ⟨w.heap.size + 1, 0, none⟩ = some (.slice ar (selP sel pre).length cr) := cell_of_block KL.out rfl
      have HB1' := Lib.hid hb1
      clear hb1 lo bd kw kl own ob rows bel1 hpi hpi1 hpl2 hxl hta htk hT hx CW
      have HW1 := Lib.hid (show Below W.heap.size W (World.drew w1) from HB1'.out.drew)
      generalize World.drew w1 = X at *
      refine wpAnyIn_ready (rs := [0, 1]) (by decide +kernel) (by simp) ?_
      refine AllReadyIn.cons rfl (fun K hK => ?_) (AllReadyIn.cons rfl (fun K hK => ?_) AllReadyIn.nil)
      · go_simp
        refine hK _ _ ?_; clear hK K
        refine wpAnyIn_ready (rs := [1]) (by decide +kernel) (by simp) ?_
        refine AllReadyIn.cons rfl (fun K hK => ?_) AllReadyIn.nil
        go_simp
        refine hK _ _ ?_; clear hK K
        refine wpAnyIn_ready (rs := [2]) (by decide +kernel) (by simp) ?_
        refine AllReadyIn.cons rfl (fun K hK => ?_) AllReadyIn.nil
        go_simp
        refine ⟨trivial, fun h => (by cases h), (CallsIn.inRound l (callsIn_wide.2 CL.out)).mono ?_⟩
        rintro e w4 ⟨v4, rfl, hi4, hb4⟩
        obtain ⟨a4, c4, rfl⟩ := intsF_form hi4
        have hlp : (pathInts x.p).length = x.p.length := by simp
        rw [hlp] at hi4
        try rw [hlp]
        have HI4 := Lib.hid hi4
        have HB4 := Lib.hid hb4
        have O4 := Lib.hid (owns_belowV OWN.out hb4)
        have e1 : w4.cell? ⟨w.heap.size + 1, 0, none⟩ = some (.slice ar (selP sel pre).length cr) := cell_of_block ((hb4.block _ (by omega)).trans KL.out) rfl
        have e2 : (w4.alloc (.cells #[.slice a4 x.p.length c4] 41)).cell? ⟨w.heap.size + 1, 0, none⟩ = some (.slice ar (selP sel pre).length cr) := cell_of_block ((Below.heap_alloc _ _ _ (by have := hb4.size; omega)).trans ((hb4.block _ (by omega)).trans KL.out)) rfl
        clear hi4 hb4 hlp
        refine hK _ _ ?_; clear hK K
        refine wpAnyIn_ready (rs := [3]) (by decide +kernel) (by simp) ?_
        refine AllReadyIn.cons rfl (fun K hK => ?_) AllReadyIn.nil
        go_simp
        refine hK _ _ ?_; clear hK K

        refine wpAnyIn_ready (rs := [4]) (by decide +kernel) (by simp) ?_
        refine AllReadyIn.cons rfl (fun K hK => ?_) AllReadyIn.nil
        rw [if_pos (by kernel_rfl)]
        refine wpIn_append_at _ _ _ 49 rfl (w.heap.size + 3) 41 i0 (.slice none 0 0) 1 24 Tryz.underlying49 hi hz0' hz1 hz2 rfl (by decide) (.slice ar (selP sel pre).length cr) (selP sel pre).length cs rfl (O4.out.alloc _) ⟨w4.heap.size, 0, none⟩ 1 1 [.slice a4 x.p.length c4] rfl rfl ?cx1n1 ?cx2n1 ?cx3n1 ?cx4n1 ?cx5n1 ?cxsn1
        case cx1n1 =>
          intro j u hj
          match j, hj with
          | 0, hj => simp at hj; subst hj; simp [Addr.add, go_sem]
        case cx2n1 => intro u hu; simp at hu; subst hu; rfl
        case cx3n1 => unfold maxLen; omega
        case cx4n1 => omega
        case cx5n1 => have := HB4.out.size; have := bel.size; simp; omega
        case cxsn1 =>
          intro v' w6 hown' hgrow hat
          obtain ⟨g', cap', rfl⟩ : ∃ g cap, v' = .slice (some ⟨g, 0, none⟩) ((selP sel pre).length + 1) cap := by
            rcases hown'.2 with ⟨_, h0⟩ | ⟨g, cap, cur, hv, _⟩
            · omega
            · exact ⟨g, cap, hv⟩
          refine hK _ _ ?_; clear hK K
          obtain ⟨z1, hbut, hbel, hI'⟩ := paths_step LO.out BD.out KW.out KL.out OB.out ROWS.out OWN.out bel hsel HNE.out HB4.out HI4.out hown' hgrow hat
          have z2 : w6.cell? ⟨w.heap.size + 1, 0, none⟩ = some (.slice ar (selP sel pre).length cr) := cell_of_block z1 rfl
          have z3 := frozen_of_block (o := 0) z1
          have HBUT := Lib.hid hbut
          have HBEL := Lib.hid hbel
          have HI' := Lib.hid hI'
          clear hbut hbel hI' hown' hgrow hat z1
          refine wpAnyIn_ready (rs := [5]) (by decide +kernel) (by simp) ?_
          refine AllReadyIn.cons rfl (fun K hK => ?_) AllReadyIn.nil
          go_simp
          refine hK _ _ ?_; clear hK K
          refine wpAnyIn_done (by decide +kernel) ?_ _
          gi_wp2_with fail
          exact ⟨(But.of_below HW1.out).trans' (fun k hk => .inl hk) HBUT.out, (HW1.out.mono SZ.out).trans HBEL.out, _, fun k hk => hk.imp (fun h => h) (fun h => Nat.le_trans HW1.out.size h.1), HI'.out⟩
      · go_simp
        refine hK _ _ ?_; clear hK K
        refine wpAnyIn_ready (rs := [0, 2]) (by decide +kernel) (by simp) ?_
        refine AllReadyIn.cons rfl (fun K hK => ?_) (AllReadyIn.cons rfl (fun K hK => ?_) AllReadyIn.nil)
        · go_simp
          refine hK _ _ ?_; clear hK K
          refine wpAnyIn_ready (rs := [2]) (by decide +kernel) (by simp) ?_
          refine AllReadyIn.cons rfl (fun K hK => ?_) AllReadyIn.nil
          go_simp
          refine ⟨trivial, fun h => (by cases h), (CallsIn.inRound l (callsIn_wide.2 CL.out)).mono ?_⟩
          rintro e w4 ⟨v4, rfl, hi4, hb4⟩
          obtain ⟨a4, c4, rfl⟩ := intsF_form hi4
          have hlp : (pathInts x.p).length = x.p.length := by simp
          rw [hlp] at hi4
          try rw [hlp]
          have HI4 := Lib.hid hi4
          have HB4 := Lib.hid hb4
          have O4 := Lib.hid (owns_belowV OWN.out hb4)
          have e1 : w4.cell? ⟨w.heap.size + 1, 0, none⟩ = some (.slice ar (selP sel pre).length cr) := cell_of_block ((hb4.block _ (by omega)).trans KL.out) rfl
          have e2 : (w4.alloc (.cells #[.slice a4 x.p.length c4] 41)).cell? ⟨w.heap.size + 1, 0, none⟩ = some (.slice ar (selP sel pre).length cr) := cell_of_block ((Below.heap_alloc _ _ _ (by have := hb4.size; omega)).trans ((hb4.block _ (by omega)).trans KL.out)) rfl
          clear hi4 hb4 hlp
          refine hK _ _ ?_; clear hK K
          refine wpAnyIn_ready (rs := [3]) (by decide +kernel) (by simp) ?_
          refine AllReadyIn.cons rfl (fun K hK => ?_) AllReadyIn.nil
          go_simp
          refine hK _ _ ?_; clear hK K

          refine wpAnyIn_ready (rs := [4]) (by decide +kernel) (by simp) ?_
          refine AllReadyIn.cons rfl (fun K hK => ?_) AllReadyIn.nil
          rw [if_pos (by kernel_rfl)]
          refine wpIn_append_at _ _ _ 49 rfl (w.heap.size + 3) 41 i0 (.slice none 0 0) 1 24 Tryz.underlying49 hi hz0' hz1 hz2 rfl (by decide) (.slice ar (selP sel pre).length cr) (selP sel pre).length cs rfl (O4.out.alloc _) ⟨w4.heap.size, 0, none⟩ 1 1 [.slice a4 x.p.length c4] rfl rfl ?cx1n2 ?cx2n2 ?cx3n2 ?cx4n2 ?cx5n2 ?cxsn2
          case cx1n2 =>
            intro j u hj
            match j, hj with
            | 0, hj => simp at hj; subst hj; simp [Addr.add, go_sem]
          case cx2n2 => intro u hu; simp at hu; subst hu; rfl
          case cx3n2 => unfold maxLen; omega
          case cx4n2 => omega
          case cx5n2 => have := HB4.out.size; have := bel.size; simp; omega
          case cxsn2 =>
            intro v' w6 hown' hgrow hat
            obtain ⟨g', cap', rfl⟩ : ∃ g cap, v' = .slice (some ⟨g, 0, none⟩) ((selP sel pre).length + 1) cap := by
              rcases hown'.2 with ⟨_, h0⟩ | ⟨g, cap, cur, hv, _⟩
              · omega
              · exact ⟨g, cap, hv⟩
            refine hK _ _ ?_; clear hK K
            obtain ⟨z1, hbut, hbel, hI'⟩ := paths_step LO.out BD.out KW.out KL.out OB.out ROWS.out OWN.out bel hsel HNE.out HB4.out HI4.out hown' hgrow hat
            have z2 : w6.cell? ⟨w.heap.size + 1, 0, none⟩ = some (.slice ar (selP sel pre).length cr) := cell_of_block z1 rfl
            have z3 := frozen_of_block (o := 0) z1
            have HBUT := Lib.hid hbut
            have HBEL := Lib.hid hbel
            have HI' := Lib.hid hI'
            clear hbut hbel hI' hown' hgrow hat z1
            refine wpAnyIn_ready (rs := [5]) (by decide +kernel) (by simp) ?_
            refine AllReadyIn.cons rfl (fun K hK => ?_) AllReadyIn.nil
            go_simp
            refine hK _ _ ?_; clear hK K
            refine wpAnyIn_done (by decide +kernel) ?_ _
            gi_wp2_with fail
            exact ⟨(But.of_below HW1.out).trans' (fun k hk => .inl hk) HBUT.out, (HW1.out.mono SZ.out).trans HBEL.out, _, fun k hk => hk.imp (fun h => h) (fun h => Nat.le_trans HW1.out.size h.1), HI'.out⟩
        · go_simp
          refine ⟨trivial, fun h => (by cases h), (CallsIn.inRound l (callsIn_wide.2 CL.out)).mono ?_⟩
          rintro e w4 ⟨v4, rfl, hi4, hb4⟩
          obtain ⟨a4, c4, rfl⟩ := intsF_form hi4
          have hlp : (pathInts x.p).length = x.p.length := by simp
          rw [hlp] at hi4
          try rw [hlp]
          have HI4 := Lib.hid hi4
          have HB4 := Lib.hid hb4
          have O4 := Lib.hid (owns_belowV OWN.out hb4)
          have e1 : w4.cell? ⟨w.heap.size + 1, 0, none⟩ = some (.slice ar (selP sel pre).length cr) := cell_of_block ((hb4.block _ (by omega)).trans KL.out) rfl
          have e2 : (w4.alloc (.cells #[.slice a4 x.p.length c4] 41)).cell? ⟨w.heap.size + 1, 0, none⟩ = some (.slice ar (selP sel pre).length cr) := cell_of_block ((Below.heap_alloc _ _ _ (by have := hb4.size; omega)).trans ((hb4.block _ (by omega)).trans KL.out)) rfl
          clear hi4 hb4 hlp
          refine hK _ _ ?_; clear hK K
          refine wpAnyIn_ready (rs := [0, 3]) (by decide +kernel) (by simp) ?_
          refine AllReadyIn.cons rfl (fun K hK => ?_) (AllReadyIn.cons rfl (fun K hK => ?_) AllReadyIn.nil)
          · go_simp
            refine hK _ _ ?_; clear hK K
            refine wpAnyIn_ready (rs := [3]) (by decide +kernel) (by simp) ?_
            refine AllReadyIn.cons rfl (fun K hK => ?_) AllReadyIn.nil
            go_simp
            refine hK _ _ ?_; clear hK K

            refine wpAnyIn_ready (rs := [4]) (by decide +kernel) (by simp) ?_
            refine AllReadyIn.cons rfl (fun K hK => ?_) AllReadyIn.nil
            rw [if_pos (by kernel_rfl)]
            refine wpIn_append_at _ _ _ 49 rfl (w.heap.size + 3) 41 i0 (.slice none 0 0) 1 24 Tryz.underlying49 hi hz0' hz1 hz2 rfl (by decide) (.slice ar (selP sel pre).length cr) (selP sel pre).length cs rfl (O4.out.alloc _) ⟨w4.heap.size, 0, none⟩ 1 1 [.slice a4 x.p.length c4] rfl rfl ?cx1n3 ?cx2n3 ?cx3n3 ?cx4n3 ?cx5n3 ?cxsn3
            case cx1n3 =>
              intro j u hj
              match j, hj with
              | 0, hj => simp at hj; subst hj; simp [Addr.add, go_sem]
            case cx2n3 => intro u hu; simp at hu; subst hu; rfl
            case cx3n3 => unfold maxLen; omega
            case cx4n3 => omega
            case cx5n3 => have := HB4.out.size; have := bel.size; simp; omega
            case cxsn3 =>
              intro v' w6 hown' hgrow hat
              obtain ⟨g', cap', rfl⟩ : ∃ g cap, v' = .slice (some ⟨g, 0, none⟩) ((selP sel pre).length + 1) cap := by
                rcases hown'.2 with ⟨_, h0⟩ | ⟨g, cap, cur, hv, _⟩
                · omega
                · exact ⟨g, cap, hv⟩
              refine hK _ _ ?_; clear hK K
              obtain ⟨z1, hbut, hbel, hI'⟩ := paths_step LO.out BD.out KW.out KL.out OB.out ROWS.out OWN.out bel hsel HNE.out HB4.out HI4.out hown' hgrow hat
              have z2 : w6.cell? ⟨w.heap.size + 1, 0, none⟩ = some (.slice ar (selP sel pre).length cr) := cell_of_block z1 rfl
              have z3 := frozen_of_block (o := 0) z1
              have HBUT := Lib.hid hbut
              have HBEL := Lib.hid hbel
              have HI' := Lib.hid hI'
              clear hbut hbel hI' hown' hgrow hat z1
              refine wpAnyIn_ready (rs := [5]) (by decide +kernel) (by simp) ?_
              refine AllReadyIn.cons rfl (fun K hK => ?_) AllReadyIn.nil
              go_simp
              refine hK _ _ ?_; clear hK K
              refine wpAnyIn_done (by decide +kernel) ?_ _
              gi_wp2_with fail
              exact ⟨(But.of_below HW1.out).trans' (fun k hk => .inl hk) HBUT.out, (HW1.out.mono SZ.out).trans HBEL.out, _, fun k hk => hk.imp (fun h => h) (fun h => Nat.le_trans HW1.out.size h.1), HI'.out⟩
          · go_simp
            refine hK _ _ ?_; clear hK K
            refine wpAnyIn_ready (rs := [0]) (by decide +kernel) (by simp) ?_
            refine AllReadyIn.cons rfl (fun K hK => ?_) AllReadyIn.nil
            go_simp
            refine hK _ _ ?_; clear hK K

            refine wpAnyIn_ready (rs := [4]) (by decide +kernel) (by simp) ?_
            refine AllReadyIn.cons rfl (fun K hK => ?_) AllReadyIn.nil
            rw [if_pos (by kernel_rfl)]
            refine wpIn_append_at _ _ _ 49 rfl (w.heap.size + 3) 41 i0 (.slice none 0 0) 1 24 Tryz.underlying49 hi hz0' hz1 hz2 rfl (by decide) (.slice ar (selP sel pre).length cr) (selP sel pre).length cs rfl (O4.out.alloc _) ⟨w4.heap.size, 0, none⟩ 1 1 [.slice a4 x.p.length c4] rfl rfl ?cx1n4 ?cx2n4 ?cx3n4 ?cx4n4 ?cx5n4 ?cxsn4
            case cx1n4 =>
              intro j u hj
              match j, hj with
              | 0, hj => simp at hj; subst hj; simp [Addr.add, go_sem]
            case cx2n4 => intro u hu; simp at hu; subst hu; rfl
            case cx3n4 => unfold maxLen; omega
            case cx4n4 => omega
            case cx5n4 => have := HB4.out.size; have := bel.size; simp; omega
            case cxsn4 =>
              intro v' w6 hown' hgrow hat
              obtain ⟨g', cap', rfl⟩ : ∃ g cap, v' = .slice (some ⟨g, 0, none⟩) ((selP sel pre).length + 1) cap := by
                rcases hown'.2 with ⟨_, h0⟩ | ⟨g, cap, cur, hv, _⟩
                · omega
                · exact ⟨g, cap, hv⟩
              refine hK _ _ ?_; clear hK K
              obtain ⟨z1, hbut, hbel, hI'⟩ := paths_step LO.out BD.out KW.out KL.out OB.out ROWS.out OWN.out bel hsel HNE.out HB4.out HI4.out hown' hgrow hat
              have z2 : w6.cell? ⟨w.heap.size + 1, 0, none⟩ = some (.slice ar (selP sel pre).length cr) := cell_of_block z1 rfl
              have z3 := frozen_of_block (o := 0) z1
              have HBUT := Lib.hid hbut
              have HBEL := Lib.hid hbel
              have HI' := Lib.hid hI'
              clear hbut hbel hI' hown' hgrow hat z1
              refine wpAnyIn_ready (rs := [5]) (by decide +kernel) (by simp) ?_
              refine AllReadyIn.cons rfl (fun K hK => ?_) AllReadyIn.nil
              go_simp
              refine hK _ _ ?_; clear hK K
              refine wpAnyIn_done (by decide +kernel) ?_ _
              gi_wp2_with fail
              exact ⟨(But.of_below HW1.out).trans' (fun k hk => .inl hk) HBUT.out, (HW1.out.mono SZ.out).trans HBEL.out, _, fun k hk => hk.imp (fun h => h) (fun h => Nat.le_trans HW1.out.size h.1), HI'.out⟩
  case done =>
    rintro D ys G W hD rfl hI hK
    have hDI := hI.put (o' := .deferred none) hK rfl (by omega)
    obtain ⟨a1, c1, hcell, hpaths⟩ := hI.paths
    have HD := Lib.hid hDI
    obtain ⟨a2, c2, hcell2, hpaths2⟩ := hDI.paths
    have hc12 : W.cell? ⟨w.heap.size + 1, 0, none⟩ = (W.putObj D (.deferred none)).cell? ⟨w.heap.size + 1, 0, none⟩ := (World.cell?_of_block (w := W) (World.putObj_heap_other (by show w.heap.size + 1 ≠ D; omega))).symm
    have e12 := (hcell.symm.trans hc12).trans hcell2
    simp only [Option.some.injEq, Value.slice.injEq] at e12
    obtain ⟨rfl, -, rfl⟩ := e12
    have HP2 := Lib.hid hpaths2
    clear hpaths hpaths2 hcell2 hc12 hDI hI
    gi_wp2
    refine ⟨by simp, .inl ⟨_, _, rfl, run_takeDeferred hK, ?_⟩⟩
    refine ⟨.slice a1 (selP sel (seqAt [] 0 f)).length c1, by simp (maxDischargeDepth := 8) [results, go_sem, Tryz.results98], ?_⟩
    exact ⟨_, rfl, HP2.out, HD.out.bel⟩
  case stop => exact fun D c pre W _ _ h _ => h.elim
end Go.Proofs.YtcgedpfolloinaaGreat

namespace Go.Proofs.YtcgedpfolloinaaGreat
open Go.RowKit Go.Shelf

theorem PathAt.mono {B B' : Nat} (h : B' ≤ B) {W : World} {p : List Nat} {c : Value} (k : PathAt B W p c) : PathAt B' W p c := by
  obtain ⟨a, cp, e, i⟩ := k
  exact ⟨a, cp, e, intsF_mono h i⟩
theorem PathAt.keeps {B : Nat} {W W' : World} {p : List Nat} {c : Value} (h : PathAt B W p c) (k : Keeps B W W') : PathAt B W' p c := by
  obtain ⟨a, cp, e, i⟩ := h
  exact ⟨a, cp, e, intsF_keeps i k⟩
theorem PathsF.mono {B B' : Nat} (h : B' ≤ B) {W : World} {v : Value} {ps : List (List Nat)} (k : PathsF B W v ps) : PathsF B' W v ps := by
  obtain ⟨a, c, e, i⟩ := k
  refine ⟨a, c, e, ?_⟩
  rcases i with i | ⟨b, e1, e2, e3, e4, e5⟩
  · exact .inl i
  · exact .inr ⟨b, e1, e2, by omega, e4, fun k hk => by obtain ⟨c', h1, h2⟩ := e5 k hk; exact ⟨c', h1, h2.mono h⟩⟩
theorem PathsF.keeps {B : Nat} {W W' : World} {v : Value} {ps : List (List Nat)} (h : PathsF B W v ps) (k : Keeps B W W') : PathsF B W' v ps := by
  obtain ⟨a, c, e, i⟩ := h
  refine ⟨a, c, e, ?_⟩
  rcases i with i | ⟨b, e1, e2, e3, e4, e5⟩
  · exact .inl i
  · exact .inr ⟨b, e1, e2, e3, Nat.lt_of_lt_of_le e4 k.1, fun j hj => by obtain ⟨c', h1, h2⟩ := e5 j hj; exact ⟨c', (k.2 _ _ e3 e4).trans h1, h2.keeps k⟩⟩
theorem PathsF.nil (B : Nat) (W : World) : PathsF B W (.slice none 0 0) [] := ⟨none, 0, rfl, .inl rfl⟩

set_option maxHeartbeats 1000000 in
theorem wantAll_any (x : Vis) (tv : Value) (w0 w : World) (ht : TreeAt w0 tv x.h x.ks) : Calls Tryz.prog 99 #[tv] w fun e w' => e = .returned (.bool true) ∧ Below w.heap.size w w' := by
  obtain ⟨va, kv, rfl, ha, hk⟩ := ht
  obtain ⟨aa, ca, rfl⟩ := attrs_form ha
  obtain ⟨ak, ck, rfl⟩ := lies_form hk
  clear ha hk
  go_enter Tryz.func99, Tryz.ntmps99
  go_wp2_with fail
  go_ret
  exact ⟨rfl, by ((repeat' (first | exact Below.refl _ _ | assumption | refine Below.setCell ?_ ?_ _ | refine bdrewN ?_ _ | refine Below.drew ?_ | refine Below.alloc ?_ ?_ _ | refine bbehind ?_ (by assumption) ?_)); all_goals first | (simp; done) | (simp; omega) | omega)⟩
set_option maxHeartbeats 1000000 in
theorem wantLab_any (x : Vis) (lab : List UInt8) (tv : Value) (b : Nat) (w0 w : World) (ht : TreeAt w0 tv x.h x.ks) (hc : w.cell? ⟨b, 0, none⟩ = some (.string ⟨lab.toArray⟩)) :
    Calls Tryz.prog 104 #[tv, .pointer (some ⟨b, 0, none⟩)] w fun e w' => e = .returned (.bool (x.h.l == lab)) ∧ Below w.heap.size w w' := by
  obtain ⟨va, kv, rfl, ha, hk⟩ := ht
  obtain ⟨aa, ca, rfl⟩ := attrs_form ha
  obtain ⟨ak, ck, rfl⟩ := lies_form hk
  have hb : b < w.heap.size := blk_lt hc
  have hn : ¬ b = w.heap.size := by omega
  clear ha hk
  go_enter Tryz.func104, Tryz.ntmps104
  go_wp2_with fail
  go_ret
  exact ⟨by simp, by ((repeat' (first | exact Below.refl _ _ | assumption | refine Below.setCell ?_ ?_ _ | refine bdrewN ?_ _ | refine Below.drew ?_ | refine Below.alloc ?_ ?_ _ | refine bbehind ?_ (by assumption) ?_)); all_goals first | (simp; done) | (simp; omega) | omega)⟩

/-- what Paths gives. -/
def pathsV (f : Fo) : List (List Nat) × Int := if foErr f = 0 then (selP (fun _ => true) (seqAt [] 0 f), 0) else ([], foErr f)
def findV (f : Fo) (lab : List UInt8) : List (List Nat) × Int :=
  if foErr f = 0 then (if namedB lab = true then (selP (fun x => x.h.l == lab) (seqAt [] 0 f), 0) else ([], 2)) else ([], foErr f)
def PsE (w : World) (r : List (List Nat) × Int) (e : Ending) (w' : World) : Prop :=
  ∃ v, e = .returned (.tuple #[v, .int .i64 r.2]) ∧ PathsF w.heap.size w' v r.1 ∧ Below w.heap.size w w'

set_option maxRecDepth 100000 in
set_option maxHeartbeats 2000000 in
theorem tpaths_any (f : Fo) (v : Value) (w : World) (hl : Lies w v f) (hs : Small f) : Calls Tryz.prog 36 #[v] w (PsE w (pathsV f)) := by
  have C := Lib.hid (tcheck_any f v w hl hs)
  have PO := Lib.hid (fun w1 (hw : Below w.heap.size w w1) => callsIn_wide.1 (paths_in f v 99 #[] (fun _ => true) w1 (lies_below hl hw) hs.size (enters_of Tryz.func99 (by kernel_rfl) rfl) (fun x tv W _ ht _ => by simpa using wantAll_any x tv w1 W ht)))
  obtain ⟨R, hR⟩ : ∃ R, pathsV f = R := ⟨_, rfl⟩
  rw [hR]
  have HR := Lib.hid hR.symm
  obtain ⟨a, cap, rfl⟩ := lies_form hl
  clear hl hs hR
  unfold pathsV at HR
  generalize foErr f = ee at *
  by_cases h0 : ee = 0
  · have HX := HR.out.trans (if_pos h0)
    subst HX
    have b0 : (ee != 0) = false := by simpa using h0
    clear h0 HR
    go_enter Tryz.func36, Tryz.ntmps36
    go_wp2_with fail
    refine C.out.mono ?_
    rintro e w1 ⟨rfl, hb1⟩
    go_wp2_with fail
    refine (PO.out w1 hb1).mono ?_
    rintro e w2 ⟨v2, rfl, hp2, hb2⟩
    obtain ⟨a2, c2, rfl, -⟩ := id hp2
    have HP := Lib.hid (hp2.mono hb1.size)
    have HB := Lib.hid (hb1.trans (hb2.mono hb1.size))
    clear hp2 hb2
    go_wp2_with fail
    go_ret2
    exact ⟨_, rfl, HP.out, HB.out⟩
  · have HX := HR.out.trans (if_neg h0)
    subst HX
    have b0 : (ee != 0) = true := by simpa using h0
    clear h0
    go_enter Tryz.func36, Tryz.ntmps36
    go_wp2_with fail
    refine C.out.mono ?_
    rintro e w1 ⟨rfl, hb1⟩
    go_wp2_with fail
    go_ret2
    exact ⟨.slice none 0 0, rfl, .nil _ _, hb1⟩

set_option maxRecDepth 100000 in
set_option maxHeartbeats 4000000 in
theorem tfind_any (f : Fo) (v : Value) (lab : List UInt8) (w : World) (hl : Lies w v f) (hs : Small f) (hlab : lab.length ≤ 1000000) : Calls Tryz.prog 40 #[v, .string ⟨lab.toArray⟩] w (PsE w (findV f lab)) := by
  have C := Lib.hid (fun w1 (hw : Below w.heap.size w w1) => tcheck_any f v w1 (lies_below hl hw) hs)
  have N := Lib.hid (fun w1 => isName_any lab w1 hlab)
  have PO := Lib.hid (fun b w1 (hw : Below w.heap.size w w1) (hc : w1.cell? ⟨b, 0, none⟩ = some (.string ⟨lab.toArray⟩)) => callsIn_wide.1 (paths_in f v 104 #[.pointer (some ⟨b, 0, none⟩)] (fun x => x.h.l == lab) w1 (lies_below hl hw) hs.size (enters_of Tryz.func104 (by kernel_rfl) rfl) (fun x tv W hW ht _ => by
    have hcW : W.cell? ⟨b, 0, none⟩ = some (.string ⟨lab.toArray⟩) := (hW.cell (p := ⟨b, 0, none⟩) (blk_lt hc)).trans hc
    simpa using wantLab_any x lab tv b w1 W ht hcW)))
  obtain ⟨R, hR⟩ : ∃ R, findV f lab = R := ⟨_, rfl⟩
  rw [hR]
  have HR := Lib.hid hR.symm
  obtain ⟨a, cap, rfl⟩ := lies_form hl
  clear hl hs hR hlab
  unfold findV at HR
  generalize foErr f = ee at *
  have kb : (w.alloc (.cells #[.string ⟨lab.toArray⟩] 9)).heap[w.heap.size]? = some (.cells #[.string ⟨lab.toArray⟩] 9) := World.alloc_heap_new w _
  have B0 : Below w.heap.size w (w.alloc (.cells #[.string ⟨lab.toArray⟩] 9)) := by ((repeat' (first | exact Below.refl _ _ | assumption | refine Below.setCell ?_ ?_ _ | refine bdrewN ?_ _ | refine Below.drew ?_ | refine Below.alloc ?_ ?_ _ | refine bbehind ?_ (by assumption) ?_)); all_goals first | (simp; done) | (simp; omega) | omega)
  have hs0 : w.heap.size < (w.alloc (.cells #[.string ⟨lab.toArray⟩] 9)).heap.size := by simp
  by_cases h0 : ee = 0
  rotate_left
  · have HX := HR.out.trans (if_neg h0)
    subst HX
    have b0 : (ee != 0) = true := by simpa using h0
    clear h0
    go_enter Tryz.func40, Tryz.ntmps40
    go_wp2_with fail
    refine (C.out _ B0).mono ?_
    rintro e w1 ⟨rfl, hb1⟩
    go_wp2_with fail
    go_ret2
    exact ⟨.slice none 0 0, rfl, .nil _ _, B0.trans (hb1.mono B0.size)⟩
  have HX := Lib.hid (HR.out.trans (if_pos h0))
  have b0 : (ee != 0) = false := by simpa using h0
  clear h0 HR
  have hmf : ∀ (fn : Fn) (first cap : Array Value) (w : World), (Instr.makeFunc fn first cap).run Tryz.prog w = .ok (.func fn first cap) w := fun _ _ _ _ => rfl
  cases hn : namedB lab with
  | false =>
    have HY := HX.out.trans (by rw [hn] <;> rfl)
    subst HY
    rw [hn] at N
    clear hn HX
    go_enter Tryz.func40, Tryz.ntmps40
    go_wp2_with fail
    refine (C.out _ B0).mono ?_
    rintro e w1 ⟨rfl, hb1⟩
    have k1 := (hb1.block _ hs0).trans kb
    have c1 : w1.cell? ⟨w.heap.size, 0, none⟩ = some (.string ⟨lab.toArray⟩) := cell_of_block k1 rfl
    go_wp2_with fail
    refine (N.out _).mono ?_
    rintro e w2 ⟨rfl, hw⟩
    obtain rfl := hw
    go_wp2_with fail
    go_ret2
    exact ⟨.slice none 0 0, rfl, .nil _ _, B0.trans (hb1.mono B0.size)⟩
  | true =>
    have HY := HX.out.trans (by rw [hn] <;> rfl)
    subst HY
    rw [hn] at N
    clear hn HX
    go_enter Tryz.func40, Tryz.ntmps40
    go_wp2_with fail
    refine (C.out _ B0).mono ?_
    rintro e w1 ⟨rfl, hb1⟩
    have k1 := (hb1.block _ hs0).trans kb
    have c1 : w1.cell? ⟨w.heap.size, 0, none⟩ = some (.string ⟨lab.toArray⟩) := cell_of_block k1 rfl
    have B1 := B0.trans (hb1.mono B0.size)
    clear k1 hb1
    go_wp2_with fail
    refine (N.out _).mono ?_
    rintro e w2 ⟨rfl, hw⟩
    obtain rfl := hw
    go_wp2_with fail
    refine (PO.out w.heap.size w1 B1 c1).mono ?_
    rintro e w2 ⟨v2, rfl, hp2, hb2⟩
    obtain ⟨a2, c2, rfl, -⟩ := id hp2
    have HP := Lib.hid (hp2.mono B1.size)
    have HB := Lib.hid (B1.trans (hb2.mono B1.size))
    clear hp2 hb2
    go_wp2_with fail
    go_ret2
    exact ⟨_, rfl, HP.out, HB.out⟩
end Go.Proofs.YtcgedpfolloinaaGreat

namespace Go.Proofs.YtcgedpfolloinaaGreat
open Go.RowKit

/-! Before -/
set_option maxRecDepth 100000 in
set_option maxHeartbeats 2000000 in
theorem before_any (l m : List Int) (v u : Value) (w : World) (h1 : IntsLie w v l) (h2 : IntsLie w u m) (hl : l.length ≤ 1000000) (hm : m.length ≤ 1000000) :
    Calls Tryz.prog 64 #[v, u] w fun e w' => e = .returned (.bool (decide (cmpL l m < 0))) ∧ Below w.heap.size w w' := by
  obtain ⟨a1, c1, rfl⟩ := ints_form h1
  obtain ⟨a2, c2, rfl⟩ := ints_form h2
  have H1 := Lib.hid h1
  have H2 := Lib.hid h2
  clear h1 h2
  go_enter Tryz.func64, Tryz.ntmps64
  go_wp2_with fail
  go_loopw [5] (fun i wr => ∃ k : Nat, i = .int .i64 k ∧ k ≤ l.length ∧ k ≤ m.length ∧ cmpL l m = cmpL (l.drop k) (m.drop k) ∧ Below w.heap.size w wr) (fun i _ => l.length - (intOf i).toNat)
  case atStart => exact ⟨0, rfl, Nat.zero_le _, Nat.zero_le _, rfl, Below.refl _ _⟩
  case round =>
    obtain ⟨k, rfl, hk, hk2, he, hbw⟩ := hrel
    have HE := Lib.hid he
    clear he
    by_cases hlt : k < l.length
    · by_cases hlt2 : k < m.length
      · obtain ⟨b, off, cap', hs, hcap, hb, hc⟩ := ints_cells H1.out (by intro e; subst e; simp at hlt)
        simp only [Value.slice.injEq] at hs
        obtain ⟨rfl, -, rfl⟩ := hs
        obtain ⟨b', off', cap'', hs, hcap', hb', hc'⟩ := ints_cells H2.out (by intro e; subst e; simp at hlt2)
        simp only [Value.slice.injEq] at hs
        obtain ⟨rfl, -, rfl⟩ := hs
        have q1 : wr.cell? ⟨b, off + k, none⟩ = some (.int .i64 (l.getD k 0)) := by rw [hbw.cell (p := ⟨b, _, none⟩) hb]; exact hc k hlt
        have q2 : wr.cell? ⟨b', off' + k, none⟩ = some (.int .i64 (m.getD k 0)) := by rw [hbw.cell (p := ⟨b', _, none⟩) hb']; exact hc' k hlt2
        have hsz := hbw.size
        have k1 : b < wr.heap.size := by omega
        have k2 : b' < wr.heap.size := by omega
        have HS := Lib.hid (HE.out.trans (cmpL_step hlt hlt2))
        clear hc hc'
        generalize l.getD k 0 = x at *
        generalize m.getD k 0 = y at *
        by_cases hx : x = y
        · have HX := Lib.hid (HS.out.trans (if_neg (by subst hx; simp [cmpM])))
          have b0 : (x != y) = false := by simpa using hx
          clear hx
          go_wp2_with fail
          refine wp_region_quiet_all (fun w' => ∃ x : Lower _, w' = x.val) (by kernel_rfl) (by kernel_rfl) ⟨⟨_, (Below.refl _ _).drew⟩, rfl⟩ ?_
          repeat (go_big_quiet_step (fail))
          refine wpQuiet_nil ?_
          intro w1 hx1
          obtain ⟨x1, hx1⟩ := hx1
          have hb1 := x1.prop
          rw [← hx1] at hb1
          clear hx1 x1
          obtain ⟨hc1, hf1⟩ := bcell hb1
          have hs1 := hb1.size
          try simp at hs1
          try have hz10 : w.heap.size < w1.heap.size := by omega
          try have hz11 : w.heap.size + 1 < w1.heap.size := by omega
          try have hz12 : w.heap.size + 1 + 1 < w1.heap.size := by omega
          try have hz13 : w.heap.size + 1 + 1 + 1 < w1.heap.size := by omega
          try have hz14 : w.heap.size + 1 + 1 + 1 + 1 < w1.heap.size := by omega
          try have hz15 : w.heap.size + 1 + 1 + 1 + 1 + 1 < w1.heap.size := by omega
          go_wp2_with fail
          go_roundw
          case rel => exact ⟨k + 1, by go_num, by omega, by omega, HX.out, by ((repeat' (first | exact Below.refl _ _ | assumption | refine Below.setCell ?_ ?_ _ | refine bdrewN ?_ _ | refine Below.drew ?_ | refine Below.alloc ?_ ?_ _ | refine bbehind ?_ (by assumption) ?_)); all_goals first | (simp; done) | (simp; omega) | omega)⟩
          case measure => simp [intOf]; omega
        · have HX := Lib.hid (show decide (cmpL l m < 0) = decide (x < y) from by
            rw [HS.out, if_pos (by unfold cmpM; split <;> (try split) <;> omega)]; unfold cmpM
            by_cases h : x < y
            · simp [h]
            · rw [if_neg h]; split <;> simp [h])
          have b0 : (x != y) = true := by simpa using hx
          clear hx
          go_wp2_with fail
          refine wp_region_quiet_all (fun w' => ∃ x : Lower _, w' = x.val) (by kernel_rfl) (by kernel_rfl) ⟨⟨_, (Below.refl _ _).drew⟩, rfl⟩ ?_
          repeat (go_big_quiet_step (fail))
          refine wpQuiet_nil ?_
          intro w1 hx1
          obtain ⟨x1, hx1⟩ := hx1
          have hb1 := x1.prop
          rw [← hx1] at hb1
          clear hx1 x1
          obtain ⟨hc1, hf1⟩ := bcell hb1
          have hs1 := hb1.size
          try simp at hs1
          try have hz10 : w.heap.size < w1.heap.size := by omega
          try have hz11 : w.heap.size + 1 < w1.heap.size := by omega
          try have hz12 : w.heap.size + 1 + 1 < w1.heap.size := by omega
          try have hz13 : w.heap.size + 1 + 1 + 1 < w1.heap.size := by omega
          try have hz14 : w.heap.size + 1 + 1 + 1 + 1 < w1.heap.size := by omega
          try have hz15 : w.heap.size + 1 + 1 + 1 + 1 + 1 < w1.heap.size := by omega
          have r1 := (hb1.cell (p := ⟨b, off + k, none⟩) k1).trans q1
          have r2 := (hb1.cell (p := ⟨b', off' + k, none⟩) k2).trans q2
          go_wp2_with fail
          have k3 : b < w1.heap.size := by omega
          have k4 : b' < w1.heap.size := by omega
          refine wp_region_quiet_all (fun w' => ∃ x : Lower _, w' = x.val) (by kernel_rfl) (by kernel_rfl) ⟨⟨_, (Below.refl _ _).drew⟩, rfl⟩ ?_
          repeat (go_big_quiet_step (fail))
          refine wpQuiet_nil ?_
          intro w2 hx2
          obtain ⟨x2, hx2⟩ := hx2
          have hb2 := x2.prop
          rw [← hx2] at hb2
          clear hx2 x2
          obtain ⟨hc2, hf2⟩ := bcell hb2
          have hs2 := hb2.size
          try simp at hs2
          try have hz20 : w.heap.size < w2.heap.size := by omega
          try have hz21 : w.heap.size + 1 < w2.heap.size := by omega
          try have hz22 : w.heap.size + 1 + 1 < w2.heap.size := by omega
          try have hz23 : w.heap.size + 1 + 1 + 1 < w2.heap.size := by omega
          try have hz24 : w.heap.size + 1 + 1 + 1 + 1 < w2.heap.size := by omega
          try have hz25 : w.heap.size + 1 + 1 + 1 + 1 + 1 < w2.heap.size := by omega
          try have hy1_2 : w1.heap.size < w2.heap.size := by omega
          go_wp2_with fail
          go_ret
          exact ⟨by rw [HX.out]; rfl, by ((repeat' (first | exact Below.refl _ _ | assumption | refine Below.setCell ?_ ?_ _ | refine bdrewN ?_ _ | refine Below.drew ?_ | refine Below.alloc ?_ ?_ _ | refine bbehind ?_ (by assumption) ?_)); all_goals first | (simp; done) | (simp; omega) | omega)⟩
      · have HX := Lib.hid (HE.out.trans (cmpL_one hlt (by omega)))
        have d2 : decide (l.length < m.length) = false := decide_eq_false (by omega)
        go_wp2_with fail
        go_ret
        exact ⟨by rw [HX.out]; simp, by ((repeat' (first | exact Below.refl _ _ | assumption | refine Below.setCell ?_ ?_ _ | refine bdrewN ?_ _ | refine Below.drew ?_ | refine Below.alloc ?_ ?_ _ | refine bbehind ?_ (by assumption) ?_)); all_goals first | (simp; done) | (simp; omega) | omega)⟩
    · by_cases hlt2 : k < m.length
      · have HX := Lib.hid (HE.out.trans (cmpL_neg (by omega) hlt2))
        have d2 : decide (l.length < m.length) = true := decide_eq_true (by omega)
        go_wp2_with fail
        go_ret
        exact ⟨by rw [HX.out]; simp, by ((repeat' (first | exact Below.refl _ _ | assumption | refine Below.setCell ?_ ?_ _ | refine bdrewN ?_ _ | refine Below.drew ?_ | refine Below.alloc ?_ ?_ _ | refine bbehind ?_ (by assumption) ?_)); all_goals first | (simp; done) | (simp; omega) | omega)⟩
      · have HX := Lib.hid (HE.out.trans (cmpL_nil (by omega) (by omega)))
        have d2 : decide (l.length < m.length) = false := decide_eq_false (by omega)
        go_wp2_with fail
        go_ret
        exact ⟨by rw [HX.out]; simp, by ((repeat' (first | exact Below.refl _ _ | assumption | refine Below.setCell ?_ ?_ _ | refine bdrewN ?_ _ | refine Below.drew ?_ | refine Below.alloc ?_ ?_ _ | refine bbehind ?_ (by assumption) ?_)); all_goals first | (simp; done) | (simp; omega) | omega)⟩
end Go.Proofs.YtcgedpfolloinaaGreat

namespace Go.Proofs.YtcgedpfolloinaaGreat
open Go.RowKit

/-- which bytes have a backslash before them. -/
def escA : Array Value := (Array.range 128).map fun i => .bool (i == 34 || i == 92)
theorem escA_size : escA.size = 128 := by simp [escA]
theorem escA_at (i : Nat) (h : i < 128) : escA[i]? = some (.bool (i == 34 || i == 92)) := by simp [escA, h]

def WrAt (b : Nat) (p : Value) (l : List UInt8) (W : World) : Prop :=
  ∃ v, W.heap[b]? = some (.cells (#[p, v] ++ escA) 136 (0, 0)) ∧ W.ownsRow b 5 1 v l.length (Lib.byteCells l) ∧ v.ownBlock ≠ some b
def IsWr (b : Nat) (l : List UInt8) (W : World) : Prop := WrAt b (.pointer none) l W ∨ WrAt b (.pointer (some ⟨b, 0, none⟩)) l W

theorem WrAt.lt {b : Nat} {p : Value} {l : List UInt8} {W : World} (h : WrAt b p l W) : b < W.heap.size := by
  obtain ⟨v, hb, _⟩ := h
  exact (Array.getElem?_eq_some_iff.1 hb).1
theorem IsWr.lt {b : Nat} {l : List UInt8} {W : World} (h : IsWr b l W) : b < W.heap.size := by
  rcases h with h | h <;> exact h.lt
theorem wr0 (p v : Value) : (#[p, v] ++ escA)[0]? = some p := by rw [Array.getElem?_append_left (by simp)]; rfl
theorem wr1 (p v : Value) : (#[p, v] ++ escA)[1]? = some v := by rw [Array.getElem?_append_left (by simp)]; rfl
theorem wrE (p v : Value) (i : Nat) (h : i < 128) : (#[p, v] ++ escA)[2 + i]? = some (.bool (i == 34 || i == 92)) := by
  rw [Array.getElem?_append_right (by simp)]; simpa using escA_at i h
theorem WrAt.used {b : Nat} {p : Value} {l : List UInt8} {W : World} (h : WrAt b p l W) (q : Value) : WrAt b q l (W.setCell ⟨b, 0, none⟩ q) := by
  obtain ⟨v, hb, hown, hne⟩ := h
  have hlt := WrAt.lt ⟨v, hb, hown, hne⟩
  refine ⟨v, ?_, ?_, hne⟩
  · simpa using set_block (o := 0) (v := q) hb
  · refine hown.kept (row := some b) ⟨rfl, rfl, rfl, by simp [World.setCell], fun k _ hk => Below.heap_setCell _ _ _ _ (fun e => hk (by simp [e]))⟩ ?_
    exact Or.inr hne
theorem WrAt.put {b : Nat} {p v v' : Value} {l' : List UInt8} {W : World} (hb : W.heap[b]? = some (.cells (#[p, v] ++ escA) 136 (0, 0))) (hown : W.ownsRow b 5 1 v' l'.length (Lib.byteCells l')) :
    WrAt b p l' (W.setCell ⟨b, 1, none⟩ v') := by
  have hne := Lib.ownBlock_ne hown hb (by decide)
  refine ⟨v', ?_, ?_, hne⟩
  · simpa using set_block (o := 1) (v := v') hb
  · exact hown.kept (row := some b) ⟨rfl, rfl, rfl, by simp [World.setCell], fun k _ hk => Below.heap_setCell _ _ _ _ (fun e => hk (by simp [e]))⟩ (Or.inr hne)

/-- what a writing call leaves. -/
def WrRes (b : Nat) (l : List UInt8) (w w' : World) : Prop := WrAt b (.pointer (some ⟨b, 0, none⟩)) l w' ∧ Below b w w' ∧ Lib.OthersKept 5 (some b) w w'

theorem info_sb : (Tryz.prog.info? 134).map (·.size) = some 2 := by kernel_rfl
theorem info_u8 : (Tryz.prog.info? 5).map (fun i => (i.zero, i.size, i.bytes)) = some (some (.int .u8 0), 1, 1) := by kernel_rfl

set_option maxRecDepth 100000 in
set_option maxHeartbeats 1000000 in
theorem copyCheck_used (b : Nat) (w : World) (h0 : w.cell? ⟨b, 0, none⟩ = some (.pointer (some ⟨b, 0, none⟩))) :
    Calls Tryz.prog 170 #[.pointer (some ⟨b, 0, none⟩)] w fun e w' => e = .returned (.tuple #[]) ∧ w' = w := by
  obtain ⟨j, hj, _⟩ := Option.map_eq_some_iff.1 info_sb
  go_enter Tryz.func170, Tryz.ntmps170
  go_wp2_with fail
  rw [Lib.run_neq_ptr_same w _ Tryz.underlying132 hj]
  go_wp2_with fail
  go_end0
  exact ⟨rfl, rfl⟩

set_option maxRecDepth 100000 in
set_option maxHeartbeats 1000000 in
theorem copyCheck_fresh (b : Nat) (w : World) (h0 : w.cell? ⟨b, 0, none⟩ = some (.pointer none)) (hsh : w.shape? b = some (136, 130)) (hfz : w.frozen? ⟨b, 0, none⟩ = false) :
    Calls Tryz.prog 170 #[.pointer (some ⟨b, 0, none⟩)] w fun e w' => e = .returned (.tuple #[]) ∧ w' = w.setCell ⟨b, 0, none⟩ (.pointer (some ⟨b, 0, none⟩)) := by
  obtain ⟨j, hj, hjs⟩ := Option.map_eq_some_iff.1 info_sb
  go_enter Tryz.func170, Tryz.ntmps170
  go_wp2_with fail
  rw [Lib.run_to_unsafe w ⟨b, 0, none⟩ Tryz.underlying132 Tryz.underlying194 hj (by rw [hjs]; decide) hsh (by show 0 < 130; decide)]
  simp only [Result.andThen]
  rw [Oper.upon_value]
  go_wp2_with fail
  rw [run_callFunc_extern Tryz.func181 (by kernel_rfl) (by kernel_rfl) (by kernel_rfl) (e := Extern.AbiNoEscape.same) (by kernel_rfl)]
  rw [Lib.run_noEscape]
  simp only [Result.andThen]
  rw [Oper.upon_value]
  go_wp2_with fail
  rw [Lib.run_from_unsafe w ⟨b, 0, none⟩ Tryz.underlying194 Tryz.underlying132 hj hsh (by kernel_rfl)]
  simp only [Result.andThen]
  rw [Oper.upon_value]
  go_wp2_with fail
  go_end0
  exact ⟨rfl, rfl⟩
theorem copyCheck_any (b : Nat) (l : List UInt8) (w : World) (h : IsWr b l w) : Calls Tryz.prog 170 #[.pointer (some ⟨b, 0, none⟩)] w fun e w' => e = .returned (.tuple #[]) ∧ WrRes b l w w' := by
  rcases h with h | h
  · obtain ⟨v, hb, hown, hne⟩ := h
    refine (copyCheck_fresh b w (cell_of_block hb (wr0 _ _)) (by simp [World.shape?, hb, escA_size]) (frozen_of_block hb)).mono ?_
    rintro e w' ⟨rfl, rfl⟩
    exact ⟨rfl, WrAt.used ⟨v, hb, hown, hne⟩ _, (Below.refl b w).setCell (p := ⟨b, 0, none⟩) (Nat.le_refl _) _, (Lib.OthersKept.refl _ _ w).setCell ⟨b, 0, none⟩ rfl _⟩
  · obtain ⟨v, hb, hown, hne⟩ := h
    refine (copyCheck_used b w (cell_of_block hb (wr0 _ _))).mono ?_
    rintro e w' ⟨rfl, rfl⟩
    exact ⟨rfl, ⟨v, hb, hown, hne⟩, Below.refl b _, Lib.OthersKept.refl _ _ _⟩

set_option maxRecDepth 100000 in
set_option maxHeartbeats 2000000 in
theorem writeByte_any (b : Nat) (l : List UInt8) (c : UInt8) (w : World) (h : IsWr b l w) (hl : l.length ≤ 1000000000) :
    Calls Tryz.prog 155 #[.pointer (some ⟨b, 0, none⟩), .int .u8 c.toNat] w fun e w' => e = .returned .nilIface ∧ WrRes b (l ++ [c]) w w' := by
  obtain ⟨i0, hi, hz0, hz1, hz2⟩ := info_parts info_u8
  have hbw := h.lt
  have CC := Lib.hid (copyCheck_any b l w h)
  clear h
  go_enter Tryz.func155, Tryz.ntmps155
  go_wp2_with fail
  refine CC.out.mono ?_
  rintro e w1 ⟨rfl, ⟨v, hbk, hown, hne⟩, hb1, hk1⟩
  have hs1 := hb1.size
  have c1 : w1.cell? ⟨b, 1, none⟩ = some v := cell_of_block hbk (wr1 _ _)
  have hlt : b < w1.heap.size := by omega
  have HBK := Lib.hid hbk
  have HOWN := Lib.hid hown
  have HK := Lib.hid hk1
  clear hbk hown hk1
  go_wp2_with (at_builtin; refine wpList_append_own _ rfl _ _ 92 rfl b 5 i0 (.int .u8 0) 1 1 Tryz.underlying92 hi hz0 hz1 hz2 rfl (by decide) _ _ _ rfl (HOWN.out.alloc _) ⟨w1.heap.size, 0, none⟩ 1 1 [.int .u8 c.toNat] rfl rfl ?c1 ?c2 ?c3 ?c4 ?c5 ?stop)
  case c1 =>
    intro j u hj
    match j, hj with
    | 0, hj => simp at hj; subst hj; simp [Addr.add]
  case c2 => intro u hu; simp at hu; subst hu; rfl
  case c3 => unfold maxLen; omega
  case c4 => omega
  case c5 => simp; omega
  case stop =>
    intro v' w2 hown' hgrow _
    have hb2 : w2.heap[b]? = some (.cells (#[.pointer (some ⟨b, 0, none⟩), v] ++ escA) 136 (0, 0)) := by
      rw [hgrow.block b (by simp; omega) (fun e => hne e.symm), Below.heap_alloc w1 _ b hlt]
      exact HBK.out
    have d1 : w2.cell? ⟨b, 1, none⟩ = some v := cell_of_block hb2 (wr1 _ _)
    have f1 : w2.frozen? ⟨b, 1, none⟩ = false := frozen_of_block hb2
    obtain ⟨g, cap, rfl⟩ : ∃ g cap, v' = .slice (some ⟨g, 0, none⟩) (l.length + 1) cap := by
      rcases hown'.2 with ⟨_, h0⟩ | ⟨g, cap, cur, hv, _⟩
      · omega
      · exact ⟨g, cap, hv⟩
    have HO := Lib.hid hown'
    have HG := Lib.hid hgrow
    have HB2 := Lib.hid hb2
    clear hown' hgrow hb2
    go_wp2_with fail
    go_ret
    refine ⟨rfl, WrAt.put HB2.out (by simpa [Lib.byteCells] using HO.out), ?_, ?_⟩
    · exact ((hb1.alloc (by omega) _).grown HG.out (by simp; omega) (fun k hk => (HOWN.out.lt k hk).1)).setCell (p := ⟨b, 1, none⟩) (Nat.le_refl _) _
    · refine ((HK.out.alloc _).grown HG.out ?_).setCell ⟨b, 1, none⟩ rfl _
      intro g hg
      rcases (HOWN.out.alloc (.cells #[.int .u8 c.toNat] 5)).2 with ⟨rfl, _⟩ | ⟨g', cap', cur, rfl, _, hc, _⟩
      · simp [Value.ownBlock] at hg
      · simp only [Value.ownBlock, Option.some.injEq] at hg; subst hg; exact ⟨_, _, hc⟩

set_option maxRecDepth 100000 in
set_option maxHeartbeats 2000000 in
theorem writeString_any (b : Nat) (l s : List UInt8) (w : World) (h : IsWr b l w) (hl : l.length + s.length ≤ 1000000000) :
    Calls Tryz.prog 172 #[.pointer (some ⟨b, 0, none⟩), .string ⟨s.toArray⟩] w fun e w' => e = .returned (.tuple #[.int .i64 s.length, .nilIface]) ∧ WrRes b (l ++ s) w w' := by
  obtain ⟨i0, hi, hz0, hz1, hz2⟩ := info_parts info_u8
  have hbw := h.lt
  have CC := Lib.hid (copyCheck_any b l w h)
  clear h
  have hsz : (⟨s.toArray⟩ : ByteArray).size = s.length := by simp [ByteArray.size]
  go_enter Tryz.func172, Tryz.ntmps172
  go_wp2_with fail
  refine CC.out.mono ?_
  rintro e w1 ⟨rfl, ⟨v, hbk, hown, hne⟩, hb1, hk1⟩
  have hs1 := hb1.size
  have c1 : w1.cell? ⟨b, 1, none⟩ = some v := cell_of_block hbk (wr1 _ _)
  have hlt : b < w1.heap.size := by omega
  have HBK := Lib.hid hbk
  have HOWN := Lib.hid hown
  have HK := Lib.hid hk1
  clear hbk hown hk1
  go_wp2_with (at_builtin; refine Lib.wpList_append_own_string _ rfl _ _ 92 9 rfl b 5 i0 Tryz.underlying92 Tryz.underlying9 hi hz0 hz1 hz2 _ _ _ rfl HOWN.out ⟨s.toArray⟩ rfl ?c3 ?c4 ?c5 ?stop)
  case c3 => rw [hsz]; unfold maxLen; omega
  case c4 => rw [hsz]; omega
  case c5 => omega
  case stop =>
    intro v' w2 hown' hgrow _
    have hb2 : w2.heap[b]? = some (.cells (#[.pointer (some ⟨b, 0, none⟩), v] ++ escA) 136 (0, 0)) := by
      rw [hgrow.block b hlt (fun e => hne e.symm)]
      exact HBK.out
    have d1 : w2.cell? ⟨b, 1, none⟩ = some v := cell_of_block hb2 (wr1 _ _)
    have f1 : w2.frozen? ⟨b, 1, none⟩ = false := frozen_of_block hb2
    obtain ⟨ao, n', cap, rfl⟩ : ∃ ao n' cap, v' = .slice ao n' cap := by
      rcases hown'.2 with ⟨hv, _⟩ | ⟨g, cap, cur, hv, _⟩
      · exact ⟨_, _, _, hv⟩
      · exact ⟨_, _, _, hv⟩
    have HO := Lib.hid hown'
    have HG := Lib.hid hgrow
    have HB2 := Lib.hid hb2
    clear hown' hgrow hb2
    go_wp2_with fail
    go_ret2
    refine ⟨by simp, WrAt.put HB2.out ?_, ?_, ?_⟩
    · have := HO.out
      rw [Lib.strCells_eq] at this
      simpa [Lib.byteCells_append, List.length_append] using this
    · exact (hb1.grown HG.out (by omega) (fun k hk => (HOWN.out.lt k hk).1)).setCell (p := ⟨b, 1, none⟩) (Nat.le_refl _) _
    · refine (HK.out.grown HG.out ?_).setCell ⟨b, 1, none⟩ rfl _
      intro g hg
      rcases HOWN.out.2 with ⟨rfl, _⟩ | ⟨g', cap', cur, rfl, _, hc, _⟩
      · simp [Value.ownBlock] at hg
      · simp only [Value.ownBlock, Option.some.injEq] at hg; subst hg; exact ⟨_, _, hc⟩
end Go.Proofs.YtcgedpfolloinaaGreat

namespace Go.Proofs.YtcgedpfolloinaaGreat
open Go.RowKit

theorem firstNZ_two (a b : Int) : firstNZ [a, b] = if a ≠ 0 then a else b := by
  unfold firstNZ firstNZ firstNZ
  split
  · rfl
  · split <;> simp_all

end Go.Proofs.YtcgedpfolloinaaGreat

namespace Go.Proofs.YtcgedpfolloinaaGreat
open Go.RowKit

/-- what is left of a text. -/
def RdAt (b : Nat) (l : List UInt8) (W : World) : Prop := W.heap[b]? = some (.cells #[.string ⟨l.toArray⟩] 158 (0, 0))
theorem RdAt.cell {b : Nat} {l : List UInt8} {W : World} (h : RdAt b l W) : W.cell? ⟨b, 0, none⟩ = some (.string ⟨l.toArray⟩) := cell_of_block (show W.heap[b]? = _ from h) rfl
theorem RdAt.frozen {b : Nat} {l : List UInt8} {W : World} (h : RdAt b l W) : W.frozen? ⟨b, 0, none⟩ = false := frozen_of_block (show W.heap[b]? = _ from h)
theorem RdAt.set {b : Nat} {l : List UInt8} {W : World} (h : RdAt b l W) (t : List UInt8) : RdAt b t (W.setCell ⟨b, 0, none⟩ (.string ⟨t.toArray⟩)) := by
  unfold RdAt at h ⊢
  simpa using set_block (o := 0) (v := .string ⟨t.toArray⟩) h
theorem ext_tail (c : UInt8) (t : List UInt8) : (⟨(c :: t).toArray⟩ : ByteArray).extract 1 (t.length + 1) = ⟨t.toArray⟩ := by
  have := ext_rest (c :: t) 1
  simpa using this

set_option maxRecDepth 100000 in
set_option maxHeartbeats 1000000 in
theorem accept_yes (b : Nat) (c : UInt8) (t : List UInt8) (w : World) (h : RdAt b (c :: t) w) (hl : t.length ≤ 1000000) :
    Calls Tryz.prog 166 #[.pointer (some ⟨b, 0, none⟩), .int .u8 c.toNat] w fun e w' => e = .returned (.bool true) ∧ w' = w.setCell ⟨b, 0, none⟩ (.string ⟨t.toArray⟩) := by
  have c0 := h.cell
  have f0 := h.frozen
  have hx := ext_tail c t
  clear h
  go_enter Tryz.func166, Tryz.ntmps166
  go_wp2_with fail
  go_ret
  exact ⟨rfl, rfl⟩
set_option maxRecDepth 100000 in
set_option maxHeartbeats 1000000 in
theorem accept_nil (b : Nat) (c : UInt8) (w : World) (h : RdAt b [] w) :
    Calls Tryz.prog 166 #[.pointer (some ⟨b, 0, none⟩), .int .u8 c.toNat] w fun e w' => e = .returned (.bool false) ∧ w' = w := by
  have c0 := h.cell
  clear h
  go_enter Tryz.func166, Tryz.ntmps166
  go_wp2_with fail
  go_ret
  exact ⟨rfl, rfl⟩
set_option maxRecDepth 100000 in
set_option maxHeartbeats 1000000 in
theorem accept_other (b : Nat) (c d : UInt8) (t : List UInt8) (w : World) (h : RdAt b (d :: t) w) (hd : d ≠ c) :
    Calls Tryz.prog 166 #[.pointer (some ⟨b, 0, none⟩), .int .u8 c.toNat] w fun e w' => e = .returned (.bool false) ∧ w' = w := by
  have c0 := h.cell
  have hn : ((d.toNat : Int) != (c.toNat : Int)) = true := by
    rw [bne_iff_ne]; intro e; exact hd (UInt8.toNat_inj.1 (by omega))
  clear h
  go_enter Tryz.func166, Tryz.ntmps166
  go_wp2_with fail
  go_ret
  exact ⟨rfl, rfl⟩
set_option maxRecDepth 100000 in
set_option maxHeartbeats 1000000 in
theorem expect_yes (b : Nat) (c : UInt8) (t : List UInt8) (w : World) (h : RdAt b (c :: t) w) (hl : t.length ≤ 1000000) :
    Calls Tryz.prog 179 #[.pointer (some ⟨b, 0, none⟩), .int .u8 c.toNat] w fun e w' => e = .returned (.tuple #[]) ∧ w' = w.setCell ⟨b, 0, none⟩ (.string ⟨t.toArray⟩) := by
  have A := Lib.hid (accept_yes b c t w h hl)
  clear h
  go_enter Tryz.func179, Tryz.ntmps179
  go_wp2_with fail
  refine A.out.mono ?_
  rintro e w1 ⟨rfl, rfl⟩
  go_wp2_with fail
  go_end0
  exact ⟨rfl, rfl⟩
set_option maxRecDepth 100000 in
set_option maxHeartbeats 1000000 in
theorem look_yes (b : Nat) (c : UInt8) (t : List UInt8) (w : World) (h : RdAt b (c :: t) w) :
    Calls Tryz.prog 184 #[.pointer (some ⟨b, 0, none⟩)] w fun e w' => e = .returned (.int .u8 c.toNat) ∧ w' = w := by
  have c0 := h.cell
  clear h
  go_enter Tryz.func184, Tryz.ntmps184
  go_wp2_with fail
  go_ret
  exact ⟨rfl, rfl⟩
set_option maxRecDepth 100000 in
set_option maxHeartbeats 1000000 in
theorem word_yes (b : Nat) (l : List UInt8) (w : World) (h : RdAt b l w) (hl : l.length ≤ 1000000) (h0 : wordLen l ≠ 0) :
    Calls Tryz.prog 187 #[.pointer (some ⟨b, 0, none⟩)] w fun e w' => e = .returned (.string ⟨(l.take (wordLen l)).toArray⟩) ∧ w' = w.setCell ⟨b, 0, none⟩ (.string ⟨(l.drop (wordLen l)).toArray⟩) := by
  have c0 := h.cell
  have f0 := h.frozen
  have WF := Lib.hid (wordAtFront_any l w hl)
  have hle := wordLen_le l
  generalize wordLen l = n at *
  have hx := ext_rest l n
  have htl : (l.take n).length = n := by rw [List.length_take]; omega
  have hne : (l.take n).isEmpty = false := by
    rw [List.isEmpty_eq_false_iff]
    intro e
    rw [e] at htl
    simp at htl
    omega
  clear h
  go_enter Tryz.func187, Tryz.ntmps187
  go_wp2_with fail
  refine WF.out.mono ?_
  rintro e w1 ⟨rfl, rfl⟩
  go_wp2_with fail
  go_ret
  exact ⟨rfl, rfl⟩
end Go.Proofs.YtcgedpfolloinaaGreat

namespace Go.Proofs.YtcgedpfolloinaaGreat
open Go.RowKit

set_option maxRecDepth 100000 in
set_option maxHeartbeats 2000000 in
theorem appendRune_any (b : Nat) (l : List UInt8) (c : UInt8) (v : Value) (w : World) (hown : w.ownsRow b 5 1 v l.length (Lib.byteCells l)) (hne : v.ownBlock ≠ some b) (hbw : b < w.heap.size) (hl : l.length ≤ 1000000000) (hc : c.toNat < 128) :
    Calls Tryz.prog 197 #[v, .int .i32 c.toNat] w fun e w' => ∃ a cap, e = .returned (.slice a (l.length + 1) cap) ∧ w'.ownsRow b 5 1 (.slice a (l.length + 1) cap) (l.length + 1) (Lib.byteCells (l ++ [c])) ∧ Below b w w' ∧ w'.heap[b]? = w.heap[b]? ∧ Lib.OthersKept 5 (some b) w w' := by
  obtain ⟨i0, hi, hz0, hz1, hz2⟩ := info_parts info_u8
  have HOWN := Lib.hid hown
  clear hown
  have hw32 : IntKind.u32.wrap (c.toNat : Int) = c.toNat := by rw [show IntKind.u32.wrap (c.toNat : Int) = (c.toNat : Int) % 4294967296 from rfl]; omega
  have hw8 : IntKind.u8.wrap (c.toNat : Int) = c.toNat := by rw [show IntKind.u8.wrap (c.toNat : Int) = (c.toNat : Int) % 256 from rfl]; omega
  have hle : decide ((c.toNat : Int) ≤ 127) = true := by simp; omega
  have hle' : decide (c.toNat ≤ 127) = true := by simp; omega
  go_enter Tryz.func197, Tryz.ntmps197
  go_wp2_with (at_builtin; refine wpList_append_own _ rfl _ _ 92 rfl b 5 i0 (.int .u8 0) 1 1 Tryz.underlying92 hi hz0 hz1 hz2 rfl (by decide) _ _ _ rfl (HOWN.out.alloc _) ⟨w.heap.size, 0, none⟩ 1 1 [.int .u8 c.toNat] rfl rfl ?c1 ?c2 ?c3 ?c4 ?c5 ?stop)
  case c1 =>
    intro j u hj
    match j, hj with
    | 0, hj => simp at hj; subst hj; simp [Addr.add]
  case c2 => intro u hu; simp at hu; subst hu; rfl
  case c3 => unfold maxLen; omega
  case c4 => omega
  case c5 => simp; omega
  case stop =>
    intro v' w2 hown' hgrow _
    obtain ⟨g, cap, rfl⟩ : ∃ g cap, v' = .slice (some ⟨g, 0, none⟩) (l.length + 1) cap := by
      rcases hown'.2 with ⟨_, h0⟩ | ⟨g, cap, cur, hv, _⟩
      · omega
      · exact ⟨g, cap, hv⟩
    have HO := Lib.hid hown'
    have HG := Lib.hid hgrow
    clear hown' hgrow
    go_wp2_with fail
    go_ret
    refine ⟨some ⟨g, 0, none⟩, cap, rfl, by simpa [Lib.byteCells] using HO.out, ?_, ?_, ?_⟩
    · exact (((Below.refl b w).alloc (by omega) _).grown HG.out (by simp; omega) (fun k hk => (HOWN.out.lt k hk).1))
    · rw [HG.out.block b (by simp; omega) (fun e => hne e.symm), Below.heap_alloc w _ b hbw]
    · refine ((Lib.OthersKept.refl _ _ w).alloc _).grown HG.out ?_
      intro g hg
      rcases (HOWN.out.alloc (.cells #[.int .u8 c.toNat] 5)).2 with ⟨rfl, _⟩ | ⟨g', cap', cur, rfl, _, hc, _⟩
      · simp [Value.ownBlock] at hg
      · simp only [Value.ownBlock, Option.some.injEq] at hg; subst hg; exact ⟨_, _, hc⟩

set_option maxRecDepth 100000 in
set_option maxHeartbeats 2000000 in
theorem writeRune_any (b : Nat) (l : List UInt8) (c : UInt8) (w : World) (h : IsWr b l w) (hl : l.length ≤ 1000000000) (hc : c.toNat < 128) :
    Calls Tryz.prog 183 #[.pointer (some ⟨b, 0, none⟩), .int .i32 c.toNat] w fun e w' => e = .returned (.tuple #[.int .i64 1, .nilIface]) ∧ WrRes b (l ++ [c]) w w' := by
  have hbw := h.lt
  have CC := Lib.hid (copyCheck_any b l w h)
  clear h
  go_enter Tryz.func183, Tryz.ntmps183
  go_wp2_with fail
  refine CC.out.mono ?_
  rintro e w1 ⟨rfl, ⟨v, hbk, hown, hne⟩, hb1, hk1⟩
  have hs1 := hb1.size
  obtain ⟨va, vc, rfl⟩ : ∃ va vc, v = .slice va l.length vc := by
    rcases hown.2 with ⟨rfl, h0⟩ | ⟨g, cap, cur, hv, _⟩
    · exact ⟨none, 0, by rw [h0]⟩
    · exact ⟨_, _, hv⟩
  have c1 : w1.cell? ⟨b, 1, none⟩ = some (.slice va l.length vc) := cell_of_block hbk (wr1 _ _)
  have hlt : b < w1.heap.size := by omega
  have AR := Lib.hid (appendRune_any b l c _ w1 hown hne hlt hl hc)
  have HBK := Lib.hid hbk
  have HK := Lib.hid hk1
  clear hbk hown hk1
  go_wp2_with fail
  refine AR.out.mono ?_
  rintro e w2 ⟨a, cap, rfl, hown2, hb2, hblk, hk2⟩
  have hbk2 := hblk.trans HBK.out
  have d1 : w2.cell? ⟨b, 1, none⟩ = some (.slice va l.length vc) := cell_of_block hbk2 (wr1 _ _)
  have f1 : w2.frozen? ⟨b, 1, none⟩ = false := frozen_of_block hbk2
  have HB2 := Lib.hid hbk2
  have HO := Lib.hid hown2
  have HK2 := Lib.hid hk2
  clear hblk hbk2 hown2 hk2
  go_wp2_with fail
  go_ret2
  refine ⟨by simp; omega, WrAt.put HB2.out (by simpa using HO.out), (hb1.trans hb2).setCell (p := ⟨b, 1, none⟩) (Nat.le_refl _) _, (HK.out.trans HK2.out).setCell ⟨b, 1, none⟩ rfl _⟩
end Go.Proofs.YtcgedpfolloinaaGreat
