/- What the proof of PrfTreeChecks rests on, part 4 of 11. -/
import Derived.RangeFuncLeaves
import Derived.Shelf.Abstract
import Derived.OwnWalkIn
import Derived.TacticsInMore
import Derived.LoopNIn
import Derived.LoopIn
import Derived.Maps.OwnIn
import Derived.WalkSmall
import Derived.Test.YtefongoinlcgaaaGreatMPrfTreeChecks3
/- Regions whose order is drawn: a head of operations that are quiet, one allocation of a struct of two cells that may come up anywhere among them, a store of a value into it, then a tail in one forced order. The head is walked once, in the text's order, for every class of worlds on top of the first one; the tail behind it with whatever block the allocation took. -/
namespace Go.Proofs.YtefongoinlcgaaaGreat
open Go

section
variable {P : Program} {ops : Array Oper} {md : Region.Mode} {W : World}

/-- One value in every world on top of W; a call leaves what was there as it was. -/
def uponR (P : Program) (w : World) (v : Value) : Result Next → Prop
  | .ok (.value u) w' => w' = w ∧ u = v
  | .ok .skip w' => w' = w ∧ v = undef
  | .ok (.enter f args) w' => w' = w ∧ Calls P f args w (fun e w'' => e = .returned v ∧ Go.RowKit.Below w.heap.size w w'')
  | _ => False
def oneR (P : Program) (W : World) (o : Oper) (a : Act) (v : Value) : Prop := ∀ w, Go.RowKit.Below W.heap.size W w → uponR P w v ((execOp a.eval o).run P w)
def quietR (P : Program) (W : World) (ops : Array Oper) (Q : Act → Prop) : List Oper → Act → Prop
  | [], a => Q a
  | o :: rest, a => if Region.wanted o (yielded ops a.tmps) then ∃ v, oneR P W o a v ∧ quietR P W ops Q rest (a.put o.dst v) else quietR P W ops Q rest (a.put o.dst undef)

/-- Where the operations leave their values: apart, and within the frame. -/
def dstsB (n : Nat) : List Oper → Bool
  | [] => true
  | o :: rest => (match o.dst with | some d => decide (d < n) && rest.all (fun o' => o'.dst != some d) | none => false) && dstsB n rest

theorem put_size (a : Act) (d : Option Tmp) (v : Value) : (a.put d v).tmps.size = a.tmps.size := by cases d <;> simp [Act.put]
theorem put_at {a : Act} {d : Tmp} {v : Value} (h : d < a.tmps.size) : (a.put (some d) v).tmps[d]? = some v := by simp [Act.put, h]
theorem put_off {a : Act} {d : Tmp} {x : Option Tmp} {v : Value} (h : x ≠ some d) : (a.put x v).tmps[d]? = a.tmps[d]? := by
  cases x with
  | none => rfl
  | some e => simp only [Act.put]; exact Array.getElem?_setIfInBounds_ne fun k => h (by rw [k])

theorem quiet_keeps {C : World → Prop} {a1 : Act} {d : Tmp} : ∀ (l : List Oper) (a : Act), l.all (fun o' => o'.dst != some d) = true → wpQuiet P ops C (· = a1) l a → a1.tmps[d]? = a.tmps[d]?
  | [], a, _, h => by rw [show a = a1 from h]
  | o :: l, a, hd, h => by
    simp only [List.all_cons, Bool.and_eq_true, bne_iff_ne, ne_eq] at hd
    unfold wpQuiet at h
    split at h
    · obtain ⟨v, -, k⟩ := h
      rw [quiet_keeps l _ hd.2 k, put_off hd.1]
    · rw [quiet_keeps l _ hd.2 h, put_off hd.1]

theorem oneR_of {o : Oper} {a : Act} {v : Value} (h : ∀ W', Go.RowKit.Below W.heap.size W W' → o.quietAt P a (fun w' => ∃ x : Lower W', w' = x.val) W' v) : oneR P W o a v := by
  intro w hw
  have k := h w hw
  unfold Oper.quietAt at k
  generalize (execOp a.eval o).run P w = r at *
  cases r with
  | ok n w' =>
    cases n <;> simp only [Oper.quietUpon] at k <;> simp only [uponR]
    case value u => exact k
    case skip => exact k
    case enter f args => exact ⟨k.1, k.2.mono fun e w'' ⟨he, x, hx⟩ => ⟨he, hx ▸ x.prop⟩⟩
  | halt x w' => simp only [Oper.quietUpon] at k

theorem quietR_of {a1 : Act} : ∀ (l : List Oper) (a : Act), dstsB a.tmps.size l = true → (∀ W', Go.RowKit.Below W.heap.size W W' → wpQuiet P ops (fun w' => ∃ x : Lower W', w' = x.val) (· = a1) l a) → quietR P W ops (· = a1) l a
  | [], a, _, h => h W (Go.RowKit.Below.refl _ _)
  | o :: l, a, hd, h => by
    simp only [dstsB, Bool.and_eq_true] at hd
    obtain ⟨hd1, hd2⟩ := hd
    cases ho : o.dst with
    | none => rw [ho] at hd1; cases hd1
    | some d =>
      rw [ho] at hd1
      simp only [Bool.and_eq_true, decide_eq_true_eq] at hd1
      unfold quietR
      by_cases hw : Region.wanted o (yielded ops a.tmps) = true
      · rw [if_pos hw]
        have k : ∀ W', Go.RowKit.Below W.heap.size W W' → ∃ v, (∀ w, (∃ x : Lower W', w = x.val) → o.quietAt P a (fun w' => ∃ x : Lower W', w' = x.val) w v) ∧ wpQuiet P ops (fun w' => ∃ x : Lower W', w' = x.val) (· = a1) l (a.put o.dst v) := by
          intro W' hW'
          have := h W' hW'
          unfold wpQuiet at this
          rw [if_pos hw] at this
          exact this
        have one : ∀ W' v, wpQuiet P ops (fun w' => ∃ x : Lower W', w' = x.val) (· = a1) l (a.put o.dst v) → a1.tmps[d]? = some v := by
          intro W' v hv
          rw [quiet_keeps l _ hd1.2 hv, ho, put_at hd1.1]
        obtain ⟨v, hv1, hv2⟩ := k W (Go.RowKit.Below.refl _ _)
        have e := one _ _ hv2
        have same : ∀ W' v', wpQuiet P ops (fun w' => ∃ x : Lower W', w' = x.val) (· = a1) l (a.put o.dst v') → v' = v := by
          intro W' v' hv'
          have := one _ _ hv'
          rw [e] at this
          exact (Option.some.inj this).symm
        refine ⟨v, oneR_of fun W' hW' => ?_, quietR_of l _ (by rw [put_size]; exact hd2) fun W' hW' => ?_⟩
        · obtain ⟨v', h1, h2⟩ := k W' hW'
          have := same _ _ h2
          subst this
          exact h1 W' ⟨⟨W', Go.RowKit.Below.refl _ _⟩, rfl⟩
        · obtain ⟨v', h1, h2⟩ := k W' hW'
          have := same _ _ h2
          subst this
          exact h2
      · rw [if_neg hw]
        refine quietR_of l _ (by rw [put_size]; exact hd2) fun W' hW' => ?_
        have := h W' hW'
        unfold wpQuiet at this
        rw [if_neg hw] at this
        exact this

/-- Operation number i comes up: the allocation takes whatever block. -/
def opR (P : Program) (W : World) (ops : Array Oper) (m : Nat) (d s x : Nat) (val : Value) (i : Nat) (K : Act → Prop) (a : Act) : Prop :=
  if i = m then ∀ p : Nat, K (a.put (some d) (.pointer (some ⟨p, 0, none⟩)))
  else if i = s then a.tmps[x]? = some val ∧ K a else match ops[i]? with
    | none => K a
    | some o => if Region.wanted o (yielded ops a.tmps) then ∃ v, oneR P W o a v ∧ K (a.put o.dst v) else K (a.put o.dst undef)

theorem opR_mono {m i d s x : Nat} {val : Value} {a : Act} {K K' : Act → Prop} (h : ∀ a, K a → K' a) (hh : opR P W ops m d s x val i K a) : opR P W ops m d s x val i K' a := by
  unfold opR at *
  split
  · rename_i hi; rw [if_pos hi] at hh; exact fun p => h _ (hh p)
  · rename_i hi
    rw [if_neg hi] at hh
    by_cases his : i = s
    · rw [if_pos his] at hh ⊢
      exact ⟨hh.1, h _ hh.2⟩
    rw [if_neg his] at hh ⊢
    split
    · rename_i ho; simp only [ho] at hh; exact h _ hh
    · rename_i o ho
      simp only [ho] at hh
      split
      · rename_i hw; simp only [hw, if_true] at hh; obtain ⟨v, h1, h2⟩ := hh; exact ⟨v, h1, h _ h2⟩
      · rename_i hw; simp only [hw] at hh; exact h _ hh

def headR (P : Program) (W : World) (md : Region.Mode) (ops : Array Oper) (n m d s x : Nat) (val : Value) (L : Array Bool → Act → Prop) : Nat → Array Bool → Act → Prop
  | 0, ls, a => L ls a
  | f + 1, ls, a => Region.ready md ops ls ≠ [] ∧ ∀ i ∈ Region.ready md ops ls, i < n ∧ opR P W ops m d s x val i (headR P W md ops n m d s x val L f (ls.setIfInBounds i true)) a

/-- What is kept on the way: the worlds lie on top of W; the block that was taken is as it was made. -/
structure Kept (W : World) (m d s : Nat) (obj obj' : Obj) (sz : Nat) (ls : Array Bool) (a : Act) (w : World) : Prop where
  low : Go.RowKit.Below W.heap.size W w
  size : a.tmps.size = sz
  ord : ls.getD s false = true → ls.getD m false = true
  made : ls.getD m false = true → ∃ p, a.tmps[d]? = some (.pointer (some ⟨p, 0, none⟩)) ∧ W.heap.size ≤ p ∧ p < w.heap.size ∧ w.heap[p]? = some (if ls.getD s false = true then obj' else obj)

/-- What the store does. -/
structure Stores (P : Program) (os : Oper) (d x : Nat) (val : Value) (obj obj' : Obj) : Prop where
  guard : os.guard = none
  dst : os.dst = none
  run : ∀ (a : Act) (w : World) (p : Nat), a.tmps[d]? = some (.pointer (some ⟨p, 0, none⟩)) → a.tmps[x]? = some val → p < w.heap.size → w.heap[p]? = some obj →
    ∃ w', (execOp a.eval os).run P w = .ok .skip w' ∧ w'.os = w.os ∧ w'.tape = w.tape ∧ w'.output = w.output ∧ w'.heap.size = w.heap.size ∧ (∀ k, k ≠ p → w'.heap[k]? = w.heap[k]?) ∧ w'.heap[p]? = some obj'

theorem any_of_headR {n m g sz d s x : Nat} {val : Value} {obj obj' : Obj} {L : Array Bool → Act → Prop} {Q' : Exit → Act → World → Prop} {om os : Oper}
    (hL : ∀ ls a w, Kept W m d s obj obj' sz ls a w → L ls a → wpAny P md ops Q' g ls a w) (hm : ops[m]? = some om) (hmd : om.dst = some d) (hmg : om.guard = none) (hds : d < sz)
    (halloc : ∀ (a : Act) (w : World), (execOp a.eval om).run P w = .ok (.value (.pointer (some ⟨w.heap.size, 0, none⟩))) (w.alloc obj))
    (hos : ops[s]? = some os) (hst : Stores P os d x val obj obj') (hsm : Region.waitsFor md ops s m = true) (hms : m ≠ s)
    (hoff : ∀ i o, i < n → i ≠ m → ops[i]? = some o → o.dst ≠ some d) :
    ∀ (f : Nat) (ls : Array Bool) (a : Act) (w : World), Kept W m d s obj obj' sz ls a w → m < ls.size → headR P W md ops n m d s x val L f ls a → wpAny P md ops Q' (f + g) ls a w
  | 0, ls, a, w, hw, _, h => by rw [Nat.zero_add]; exact hL _ _ _ hw h
  | f + 1, ls, a, w, hw, hml, h => by
    rw [Nat.add_right_comm]
    refine ⟨fun h0 => absurd h0 h.1, fun i hi => ?_⟩
    obtain ⟨hin, hop⟩ := h.2 i hi
    have hun := (mem_ready.1 hi).1
    unfold opR at hop
    unfold wpOp
    by_cases him : i = m
    · rw [if_pos him] at hop
      subst him
      simp only [hm]
      have hwant : Region.wanted om (yielded ops a.tmps) = true := by unfold Region.wanted; rw [hmg]
      rw [if_pos hwant]
      refine .inl ?_
      unfold Oper.wp
      rw [halloc]
      simp only [Oper.upon]
      rw [hmd]
      have hns : ls.getD s false = false := by
        cases hl : ls.getD s false with
        | false => rfl
        | true => have := hw.ord hl; rw [getD_both hun] at this; cases this
      refine any_of_headR hL hm hmd hmg hds halloc hos hst hsm hms hoff f _ _ _ ⟨hw.low.alloc hw.low.size _, by rw [put_size]; exact hw.size, fun hl => ?_, fun _ => ⟨w.heap.size, put_at (by rw [hw.size]; exact hds), hw.low.size, by show w.heap.size < (w.heap.push obj).size; simp, ?_⟩⟩ (by simpa using hml) (hop _)
      · rw [getD_set_ne false hms, hns] at hl; cases hl
      · rw [getD_set_ne false hms, hns]; show (w.heap.push obj)[w.heap.size]? = some obj; simp
    · rw [if_neg him] at hop
      by_cases his : i = s
      · rw [if_pos his] at hop
        subst his
        obtain ⟨o, ho, e, he, hb, hon⟩ := Region.waitsFor_spec hsm
        obtain ⟨_, o', ho', hall⟩ := mem_ready.1 hi
        have : o = o' := Option.some.inj (ho.symm.trans ho')
        subst this
        have hlm := hall e he hb
        rw [hon] at hlm
        obtain ⟨p, h1, h2, h3, h4⟩ := hw.made hlm
        rw [getD_both hun] at h4
        obtain ⟨w', hr, k1, k2, k3, k4, k5, k6⟩ := hst.run a w p h1 hop.1 h3 h4
        simp only [hos]
        have hwant : Region.wanted os (yielded ops a.tmps) = true := by unfold Region.wanted; rw [hst.guard]
        rw [if_pos hwant]
        refine .inl ?_
        unfold Oper.wp
        rw [hr]
        simp only [Oper.upon]
        rw [hst.dst]
        refine any_of_headR hL hm hmd hmg hds halloc hos hst hsm hms hoff f _ _ _ ⟨⟨k1.trans hw.low.os, k2.trans hw.low.tape, k3.trans hw.low.output, by rw [k4]; exact hw.low.size, fun k hk => by rw [k5 k (by omega)]; exact hw.low.block k hk⟩, hw.size, fun _ => getD_set_true hlm, fun _ => ⟨p, h1, h2, by rw [k4]; exact h3, ?_⟩⟩ (by simpa using hml) hop.2
        have hisz : i < ls.size := (Nat.lt_or_ge i ls.size).elim (fun h => h) fun h => by simp [Array.getElem?_eq_none h] at hun
        rw [k6]; simp [hisz]
      · rw [if_neg his] at hop
        have next : ∀ (o : Oper) (v : Value) (w' : World), ops[i]? = some o → Go.RowKit.Below w.heap.size w w' → Kept W m d s obj obj' sz (ls.setIfInBounds i true) (a.put o.dst v) w' := by
          intro o v w' ho hb
          refine ⟨hw.low.trans (hb.mono hw.low.size), by rw [put_size]; exact hw.size, fun hl => ?_, fun hl => ?_⟩
          · rw [getD_set_ne false his] at hl; rw [getD_set_ne false him]; exact hw.ord hl
          rw [getD_set_ne false him] at hl
          obtain ⟨p, h1, h2, h3, h4⟩ := hw.made hl
          exact ⟨p, by rw [put_off (hoff i o hin him ho)]; exact h1, h2, Nat.lt_of_lt_of_le h3 hb.size, by rw [hb.block p h3, getD_set_ne false his]; exact h4⟩
        split
        · rename_i ho
          obtain ⟨_, o, ho', _⟩ := mem_ready.1 hi
          rw [ho] at ho'
          cases ho'
        · rename_i o ho
          simp only [ho] at hop
          split
          · rename_i hwant
            simp only [hwant, if_true] at hop
            obtain ⟨v, h1, h2⟩ := hop
            refine .inl ?_
            have h3 := h1 w hw.low
            unfold Oper.wp
            generalize (execOp a.eval o).run P w = r at *
            cases r with
            | ok nx w' =>
              cases nx <;> simp only [uponR] at h3 <;> simp only [Oper.upon]
              case value u =>
                obtain ⟨e1, e2⟩ := h3
                subst e1 e2
                exact any_of_headR hL hm hmd hmg hds halloc hos hst hsm hms hoff f _ _ _ (next o _ _ ho (Go.RowKit.Below.refl _ _)) (by simpa using hml) h2
              case skip =>
                obtain ⟨e1, e2⟩ := h3
                subst e1 e2
                exact any_of_headR hL hm hmd hmg hds halloc hos hst hsm hms hoff f _ _ _ (next o _ _ ho (Go.RowKit.Below.refl _ _)) (by simpa using hml) h2
              case enter fn args =>
                obtain ⟨e1, hc⟩ := h3
                subst e1
                exact hc.mono fun e w'' ⟨he, hb⟩ => by
                  subst he
                  exact any_of_headR hL hm hmd hmg hds halloc hos hst hsm hms hoff f _ _ _ (next o _ _ ho hb) (by simpa using hml) h2
            | halt x w' => simp only [uponR] at h3
          · rename_i hwant
            simp only [hwant] at hop
            exact any_of_headR hL hm hmd hmg hds halloc hos hst hsm hms hoff f _ _ _ (next o _ _ ho (Go.RowKit.Below.refl _ _)) (by simpa using hml) hop

/-- In state a the operation leaves v in its temporary. -/
def YieldR (P : Program) (W : World) (ops : Array Oper) (o : Oper) (v : Value) (a : Act) : Prop :=
  (Region.wanted o (yielded ops a.tmps) = true ∧ oneR P W o a v) ∨ (Region.wanted o (yielded ops a.tmps) = false ∧ v = undef)

theorem YieldR.op {m i d s x : Nat} {val : Value} {o : Oper} {v : Value} {a : Act} {K : Act → Prop} (him : i ≠ m) (his : i ≠ s) (hi : ops[i]? = some o) (hy : YieldR P W ops o v a) (h : K (a.put o.dst v)) : opR P W ops m d s x val i K a := by
  unfold opR
  rw [if_neg him, if_neg his]
  simp only [hi]
  rcases hy with ⟨hw, hv⟩ | ⟨hw, rfl⟩
  · simp only [hw, if_true]; exact ⟨v, hv, h⟩
  · simp only [hw, Bool.false_eq_true, if_false]; exact h

theorem YieldR.put {o : Oper} {v u : Value} {a : Act} {x : Option Tmp} (hs : ∀ cs b, o.op ≠ .select cs b) (h : ∀ d, x = some d → d ∉ o.looksAt ops) (hy : YieldR P W ops o v a) : YieldR P W ops o v (a.put x u) := by
  unfold YieldR oneR at *
  rw [execOp_put o hs a x u h, wanted_put o a x u h]
  exact hy

/-- Whether the first operation's value is in its temporary makes no difference to another one that is apart from it. -/
theorem opR_put {m j d s x : Nat} {val : Value} {oi oj : Oper} {v : Value} (hj : ops[j]? = some oj) (hmd : ∀ om, ops[m]? = some om → om.dst = some d) (hsx : ∀ os, ops[s]? = some os → x ∈ os.looksAt ops) (hap : oi.apart ops oj = true)
    (hsi : ∀ cs b, oi.op ≠ .select cs b) (hsj : ∀ cs b, oj.op ≠ .select cs b) {K : Act → Prop} {a : Act}
    (hy : YieldR P W ops oi v a) (h : opR P W ops m d s x val j K (a.put oi.dst v)) : opR P W ops m d s x val j (fun a' => YieldR P W ops oi v a' ∧ K (a'.put oi.dst v)) a := by
  obtain ⟨h1, h2, h3⟩ := Oper.apart_spec hap
  unfold opR at *
  split
  · rename_i hjm
    rw [if_pos hjm] at h
    subst hjm
    have hd := hmd oj hj
    intro p
    rw [← hd]
    refine ⟨hy.put hsi h3, ?_⟩
    rw [← Act.put_comm a v _ h2, hd]
    exact h p
  · rename_i hjm
    rw [if_neg hjm] at h
    by_cases hjs : j = s
    · rw [if_pos hjs] at h ⊢
      subst hjs
      have hx := hsx oj hj
      exact ⟨by rw [← h.1, put_off (fun e => h1 x e hx)], hy, h.2⟩
    rw [if_neg hjs] at h ⊢
    simp only [hj] at *
    rw [wanted_put oj a oi.dst v h1] at h
    split
    · rename_i hw
      simp only [hw, if_true] at h
      obtain ⟨u, hu, hn⟩ := h
      refine ⟨u, ?_, hy.put hsi h3, by rw [← Act.put_comm a v u h2]; exact hn⟩
      unfold oneR at *
      rw [execOp_put oj hsj a oi.dst v h1] at hu
      exact hu
    · rename_i hw
      simp only [hw] at h
      exact ⟨hy.put hsi h3, by rw [← Act.put_comm a v undef h2]; exact h⟩

theorem headR_take {n m i d s x : Nat} {val : Value} {oi : Oper} {v : Value} {L : Array Bool → Act → Prop} (him : i ≠ m) (his : i ≠ s) (hi : ops[i]? = some oi) (hsel : ∀ (j : Nat) (o : Oper) cs b, ops[j]? = some o → o.op ≠ .select cs b)
    (hmd : ∀ om, ops[m]? = some om → om.dst = some d) (hsx : ∀ os, ops[s]? = some os → x ∈ os.looksAt ops) (hs : Region.sinkB md ops n = true) (hc : Region.chainB md ops n = true) (hn : n < ops.size) (hin : i < n)
    (hdone : ∀ ls a, L ls a → ∀ j ∈ Region.ready md ops ls, n ≤ j) :
    ∀ (f : Nat) (ls : Array Bool) (a : Act), HeadInv md ops n ls →
      (∀ j oj, ops[j]? = some oj → j ≠ i → ls.getD j true = false → (∀ e ∈ oj.after, Region.binds md e = true → e.on ≠ i) → oi.apart ops oj = true) →
      i ∈ Region.ready md ops ls → YieldR P W ops oi v a →
      headR P W md ops n m d s x val L f (ls.setIfInBounds i true) (a.put oi.dst v) → headR P W md ops n m d s x val L (f + 1) ls a := by
  intro f
  induction f with
  | zero =>
    intro ls a inv _ hr hy H
    have hun := (mem_ready.1 hr).1
    refine ⟨fun h => absurd hr (by simp [h]), fun j hj => ?_⟩
    have hjn : j < n := (Nat.lt_or_ge j n).elim id fun h => absurd hj (tail_waits hs hc hn inv _ i rfl hin hun j h)
    by_cases hji : j = i
    · subst hji; exact ⟨hjn, hy.op him his hi H⟩
    · exact absurd (hdone _ _ H j (ready_mono hj hji)) (by omega)
  | succ f ih =>
    intro ls a inv hfree hr hy H
    have hun := (mem_ready.1 hr).1
    refine ⟨fun h => absurd hr (by simp [h]), fun j hj => ?_⟩
    have hjn : j < n := (Nat.lt_or_ge j n).elim id fun h => absurd hj (tail_waits hs hc hn inv _ i rfl hin hun j h)
    by_cases hji : j = i
    · subst hji; exact ⟨hjn, hy.op him his hi H⟩
    · obtain ⟨hjun, oj, hoj, hall⟩ := mem_ready.1 hj
      have hnot : ∀ e ∈ oj.after, Region.binds md e = true → e.on ≠ i := fun e he hb hq => by
        have h3 := hall e he hb
        rw [hq, getD_both hun] at h3
        cases h3
      have h2 := opR_put hoj hmd hsx (hfree j oj hoj hji hjun hnot) (fun cs b => hsel i oi cs b hi) (fun cs b => hsel j oj cs b hoj) hy (H.2 j (ready_mono hj hji)).2
      refine ⟨hjn, opR_mono (fun a' h3 => ih (ls.setIfInBounds j true) a' (inv.set hj hjn) (fun k ok hk hki hu hno => hfree k ok hk hki ?_ hno) (ready_mono hr (Ne.symm hji)) h3.1 ?_) h2⟩
      · by_cases hjk : j = k
        · subst hjk; exact hjun
        · rwa [getD_set_ne true hjk] at hu
      · rw [Array.setIfInBounds_comm _ _ hji]; exact h3.2

theorem headR_lex {n m g d s x : Nat} {val : Value} {Lq : Act → Prop} {L : Array Bool → Act → Prop} (hsel : Region.noSelect ops = true) (hmd : ∀ om, ops[m]? = some om → om.dst = some d) (hsx : ∀ os, ops[s]? = some os → x ∈ os.looksAt ops)
    (hs : Region.sinkB md ops n = true) (hc : Region.chainB md ops n = true) (hn : n < ops.size) (hsm : s = m + 1) (hmn : m + 2 = n)
    (hdone : ∀ ls a, L ls a → ∀ j ∈ Region.ready md ops ls, n ≤ j)
    (hone : ∀ ls a, Region.lexHead md ops g 2 m ls = true → HeadInv md ops n ls → Lq a → headR P W md ops n m d s x val L 2 ls a) :
    ∀ (l : List Oper) (k : Nat) (ls : Array Bool) (a : Act), (∀ j, j < l.length → l[j]? = ops[k + j]?) → k + l.length = m → HeadInv md ops n ls →
    Region.lexHead md ops g (l.length + 2) k ls = true → quietR P W ops Lq l a →
    headR P W md ops n m d s x val L (l.length + 2) ls a
  | [], k, ls, a, _, hk, inv, hB, h => by
    obtain rfl : k = m := by simpa using hk
    exact hone ls a hB inv h
  | o :: l, k, ls, a, hl, hk, inv, hB, h => by
    have h0 : ops[k]? = some o := by simpa using (hl 0 (by simp)).symm
    rw [List.length_cons, show l.length + 1 + 2 = l.length + 2 + 1 by omega] at hB ⊢
    rw [Region.lexHead] at hB
    simp only [Bool.and_eq_true] at hB
    obtain ⟨⟨hr, hf⟩, hB'⟩ := hB
    simp only [List.length_cons] at hk
    have hkn : k < n := by omega
    have hr' : k ∈ Region.ready md ops ls := by simpa using hr
    have next : ∀ v, quietR P W ops Lq l (a.put o.dst v) → headR P W md ops n m d s x val L (l.length + 2) (ls.setIfInBounds k true) (a.put o.dst v) :=
      fun v hv => headR_lex hsel hmd hsx hs hc hn hsm hmn hdone hone l (k + 1) _ _ (fun j hj => by have := hl (j + 1) (by simp; omega); simpa [Nat.add_assoc, Nat.add_comm 1 j] using this) (by omega) (inv.set hr' hkn) hB' hv
    unfold quietR at h
    split at h
    · rename_i hw
      obtain ⟨v, h1, h2⟩ := h
      exact headR_take (by omega) (by omega) h0 (Region.noSelect_spec hsel) hmd hsx hs hc hn hkn hdone (l.length + 2) ls a inv (Region.free_spec h0 hf) hr' (.inl ⟨hw, h1⟩) (next v h2)
    · rename_i hw
      exact headR_take (by omega) (by omega) h0 (Region.noSelect_spec hsel) hmd hsx hs hc hn hkn hdone (l.length + 2) ls a inv (Region.free_spec h0 hf) hr' (.inr ⟨by simpa using hw, rfl⟩) (next undef h)

/-- the allocation, the store: which, where. -/
def allocB (l : List Oper) (m d x : Nat) : Bool :=
  (match l[m]? with | some o => (o.dst == some d) && o.guard.isNone | none => false) && ((List.range (m + 2)).all fun i => decide (i = m) || match l[i]? with | some o => o.dst != some d | none => true) &&
  Region.waitsFor .any l.toArray (m + 1) m && (match l[m + 1]? with | some o => (o.looksAt l.toArray).contains x | none => false) && (x != d)

theorem wp_region_alloc {id : Nat} {Q : Exit → Act → World → Prop} {a : Act} {w : World} {l : List Oper} (m d x : Nat) (val : Value) (obj obj' : Obj) (om os : Oper) (hm : P.follows .mixedOrders = true) (hB : Region.lexTailB .any l.toArray (m + 2) = true)
    (hA : allocB l m d x = true) (hD : dstsB a.tmps.size (l.take m) = true) (hds : d < a.tmps.size) (hom : l[m]? = some om) (hos : l[m + 1]? = some os)
    (halloc : ∀ (a : Act) (w : World), (execOp a.eval om).run P w = .ok (.value (.pointer (some ⟨w.heap.size, 0, none⟩))) (w.alloc obj))
    (hst : Stores P os d x val obj obj')
    (h : ∃ a1, (∀ W', Go.RowKit.Below w.heap.size w W' → wpQuiet P l.toArray (fun w' => ∃ x : Lower W', w' = x.val) (· = a1) (l.take m) a) ∧ a1.tmps[x]? = some val ∧
      ∀ p w', Go.RowKit.Below w.heap.size w w' → w.heap.size ≤ p → p < w'.heap.size → w'.heap[p]? = some obj' → wpList P l.toArray Q (l.drop (m + 2)) (a1.put (some d) (.pointer (some ⟨p, 0, none⟩))) w') :
    (Code.region id l.toArray true).wp P Q a w := by
  obtain ⟨a1, h, hval, hK⟩ := h
  simp only [Region.lexTailB, Bool.and_eq_true, decide_eq_true_eq] at hB
  obtain ⟨⟨⟨⟨hsel, hn⟩, hs⟩, hc⟩, hlex⟩ := hB
  have hn' : m + 2 < l.length := by simpa using hn
  have htl : (l.take m).length = m := by simp; omega
  have hdl : (l.drop (m + 2)).length = l.toArray.size - (m + 2) := by simp
  have hom' : l.toArray[m]? = some om := by simpa using hom
  have hos' : l.toArray[m + 1]? = some os := by simpa using hos
  unfold allocB at hA
  rw [hom, hos] at hA
  simp only [Bool.and_eq_true, beq_iff_eq, Option.isNone_iff_eq_none, List.all_eq_true, List.mem_range, Bool.or_eq_true, decide_eq_true_eq, bne_iff_ne, ne_eq] at hA
  obtain ⟨⟨⟨⟨⟨hmd, hmg⟩, hoff⟩, hwait⟩, hlook⟩, hxd⟩ := hA
  have hmd' : ∀ o, l.toArray[m]? = some o → o.dst = some d := fun o ho => by rw [hom'] at ho; cases ho; exact hmd
  have hsx' : ∀ o, l.toArray[m + 1]? = some o → x ∈ o.looksAt l.toArray := fun o ho => by rw [hos'] at ho; cases ho; simpa using hlook
  have inv0 : HeadInv .any l.toArray (m + 2) (Array.replicate l.toArray.size false) :=
    ⟨by simp, fun j oj _ hl => (by rw [getD_replicate_false] at hl; cases hl), fun t _ ht => getD_in (by simpa using ht) (getD_replicate_false _ _)⟩
  have hq := quietR_of (W := w) (l.take m) a hD h
  have hsz : a1.tmps.size = a.tmps.size := by
    have keep : ∀ (l' : List Oper) (b : Act), quietR P w l.toArray (· = a1) l' b → a1.tmps.size = b.tmps.size := by
      intro l'
      induction l' with
      | nil => intro b hb; rw [show b = a1 from hb]
      | cons o l' ih =>
        intro b hb
        unfold quietR at hb
        split at hb
        · obtain ⟨v, _, hb⟩ := hb; rw [ih _ hb, put_size]
        · rw [ih _ hb, put_size]
    exact keep _ _ hq
  have H := headR_lex (P := P) (W := w) (md := .any) (g := l.toArray.size - (m + 2)) (d := d) (s := m + 1) (x := x) (val := val) (Lq := (· = a1))
    (L := fun ls' a' => Region.seqB .any l.toArray (l.toArray.size - (m + 2)) (m + 2) ls' = true ∧ ls'.getD m false = true ∧ ls'.getD (m + 1) false = true ∧ ∃ p, a' = a1.put (some d) (.pointer (some ⟨p, 0, none⟩)))
    hsel hmd' hsx' hs hc hn rfl rfl (fun ls b hL => seqB_ready hL.1) (fun ls b hB1 inv hb => by
      have hb : b = a1 := hb
      subst hb
      simp only [Region.lexHead, Bool.and_eq_true] at hB1
      obtain ⟨⟨hr, hf⟩, ⟨⟨hr2, hf2⟩, hB'⟩⟩ := hB1
      have hr' : m ∈ Region.ready .any l.toArray ls := by simpa using hr
      have hr2' : (m + 1) ∈ Region.ready .any l.toArray (ls.setIfInBounds m true) := by simpa using hr2
      have hun := (mem_ready.1 hr').1
      have hun2 := (mem_ready.1 hr2').1
      refine ⟨fun h0 => absurd hr' (by simp [h0]), fun j hj => ?_⟩
      have hjn : j < m + 2 := (Nat.lt_or_ge j (m + 2)).elim (fun h => h) fun h => absurd hj (tail_waits hs hc hn inv _ m rfl (by omega) hun j h)
      by_cases hjm : j = m
      · subst hjm
        refine ⟨by omega, ?_⟩
        unfold opR
        rw [if_pos rfl]
        intro p
        refine ⟨fun h0 => absurd hr2' (by simp [h0]), fun k hk => ?_⟩
        have hkn : k < j + 2 := (Nat.lt_or_ge k (j + 2)).elim (fun h => h) fun h => absurd hk (tail_waits hs hc hn (inv.set hr' (by omega)) _ (j + 1) rfl (by omega) hun2 k h)
        by_cases hks : k = j + 1
        · subst hks
          refine ⟨by omega, ?_⟩
          unfold opR
          rw [if_neg (by omega), if_pos rfl]
          have hj1 : j < ls.size := by rw [inv.size]; omega
          have hj2 : j + 1 < ls.size := by rw [inv.size]; omega
          refine ⟨by rw [put_off (fun e => hxd (Option.some.inj e).symm)]; exact hval, hB', ?_, ?_, p, rfl⟩
          · rw [getD_set_ne false (by omega)]; simp [hj1]
          · simp [hj2]
        · exact absurd (seqB_ready hB' k (ready_mono hk hks)) (by omega)
      · have h1 : j ∈ Region.ready .any l.toArray (ls.setIfInBounds m true) := ready_mono hj hjm
        by_cases hjs : j = m + 1
        · subst hjs
          obtain ⟨o, ho, e, he, hbb, hon⟩ := Region.waitsFor_spec hwait
          obtain ⟨_, o', ho', hall⟩ := mem_ready.1 hj
          have : o = o' := Option.some.inj (ho.symm.trans ho')
          subst this
          have := hall e he hbb
          rw [hon, getD_both hun] at this
          cases this
        · exact absurd (seqB_ready hB' j (ready_mono h1 hjs)) (by omega)) (l.take m) 0 _ a (fun j hj => by
    have hj' : j < m := by rw [htl] at hj; exact hj
    simp [hj']) (by simpa using htl) inv0 (by rw [htl]; exact hlex) hq
  rw [htl] at H
  refine wp_region_any hm ?_
  have := any_of_headR (Q' := Q) (g := l.toArray.size - (m + 2)) (sz := a.tmps.size) (obj := obj) (obj' := obj') (fun ls b w' hw hL => by
    obtain ⟨hL1, hl, hl2, p, hb⟩ := hL
    subst hb
    obtain ⟨p', e1, e2, e3, e4⟩ := hw.made hl
    rw [put_at (by rw [hsz]; exact hds)] at e1
    have ep : p = p' := by injection e1 with e1; injection e1 with e1; injection e1 with e1; injection e1
    subst ep
    rw [hl2] at e4
    have := wpAny_of_seq (md := .any) (Q' := Q) (l.drop (m + 2)) (m + 2) ls _ w' (fun j => by simp [List.getElem?_drop]) (by rw [hdl]; exact hL1) (hK p w' hw.low e2 e3 e4)
    rwa [hdl] at this) hom' hmd hmg hds halloc hos' hst hwait (by omega) (fun i o hi him ho => by
      have := hoff i hi
      rcases this with h1 | h1
      · exact absurd h1 him
      · have ho' : l[i]? = some o := by simpa using ho
        rw [ho'] at h1
        simpa using h1) (m + 2) (Array.replicate l.toArray.size false) a { w with drawn := w.drawn + 1 } ⟨(Go.RowKit.Below.refl _ _).drew, rfl, fun hl => (by rw [getD_replicate_false] at hl; cases hl), fun hl => (by rw [getD_replicate_false] at hl; cases hl)⟩ (by simp; omega) H
  rw [show m + 2 + (l.toArray.size - (m + 2)) = l.toArray.size by omega] at this
  exact this

theorem cell_of_block {w : World} {p o : Nat} {c : Array Value} {T : TypeId} {v : Value} (h : w.heap[p]? = some (.cells c T)) (hv : c[o]? = some v) : w.cell? ⟨p, o, none⟩ = some v := by
  unfold World.cell?; simp only [h]; exact hv
theorem frozen_of_block {w : World} {p o : Nat} {c : Array Value} {T : TypeId} (h : w.heap[p]? = some (.cells c T)) : w.frozen? ⟨p, o, none⟩ = false := by
  unfold World.frozen?; simp [h]

theorem set_block {w : World} {p o : Nat} {c : Array Value} {T : TypeId} {v : Value} (h : w.heap[p]? = some (.cells c T)) : (w.setCell ⟨p, o, none⟩ v).heap[p]? = some (.cells (c.setIfInBounds o v) T) := by
  unfold World.setCell; simp [Array.getElem?_modify, h]
theorem set_far {w : World} {p o k : Nat} {v : Value} (h : k ≠ p) : (w.setCell ⟨p, o, none⟩ v).heap[k]? = w.heap[k]? := by
  unfold World.setCell; simp [Array.getElem?_modify, Ne.symm h]
theorem set_size' {w : World} {a : Addr} {v : Value} : (w.setCell a v).heap.size = w.heap.size := by unfold World.setCell; simp

/-- the store of a struct of two cells. -/
theorem stores_two {os : Oper} {d x : Nat} {T : TypeId} {z0 z1 v0 v1 : Value} (hg : os.guard = none) (hd : os.dst = none)
    (hr : ∀ (a : Act) (w : World) (p : Nat), a.tmps[d]? = some (.pointer (some ⟨p, 0, none⟩)) → a.tmps[x]? = some (.agg #[v0, v1]) → w.cell? ⟨p, 0, none⟩ = some z0 → w.cell? ⟨p, 1, none⟩ = some z1 → w.frozen? ⟨p, 0, none⟩ = false → w.frozen? ⟨p, 1, none⟩ = false →
      (execOp a.eval os).run P w = .ok .skip ((w.setCell ⟨p, 0, none⟩ v0).setCell ⟨p, 1, none⟩ v1)) :
    Stores P os d x (.agg #[v0, v1]) (.cells #[z0, z1] T) (.cells #[v0, v1] T) :=
  ⟨hg, hd, fun a w p h1 h2 h3 h4 => ⟨_, hr a w p h1 h2 (cell_of_block h4 rfl) (cell_of_block h4 rfl) (frozen_of_block h4) (frozen_of_block h4), rfl, rfl, rfl, by rw [set_size', set_size'], fun k hk => by rw [set_far hk, set_far hk], by rw [set_block (set_block h4)]; rfl⟩⟩
end
end Go.Proofs.YtefongoinlcgaaaGreat

/- package tree: the trees of a forest, yielded with their paths. -/
namespace Go.Proofs.YtefongoinlcgaaaGreat
open Go.RowKit Go.Shelf

attribute [local go_sem] Oper.semAt_some

/-- a tree that is visited: its path, its head, its kids. -/
structure Vis where
  p : List Nat
  h : Hd
  ks : Fo
/-- the trees of a forest, from index i on, below a path. -/
def seqAt : List Nat → Nat → Fo → List Vis
  | _, _, .nil => []
  | pre, i, .cons h ks r => ⟨pre ++ [i], h, ks⟩ :: (seqAt (pre ++ [i]) 0 ks ++ seqAt pre (i + 1) r)
theorem seqAt_take_succ {f : Fo} : ∀ {k : Nat} {h : Hd} {ks r : Fo} (pre : List Nat) (i : Nat), f.drop k = .cons h ks r → seqAt pre i (f.take (k + 1)) = seqAt pre i (f.take k) ++ (⟨pre ++ [i + k], h, ks⟩ :: seqAt (pre ++ [i + k]) 0 ks) := by
  induction f with
  | nil => intro k h ks r pre i e; rw [Fo.drop_nil] at e; cases e
  | cons h0 k0 r0 _ ih =>
    intro k h ks r pre i e
    cases k with
    | zero => simp only [Fo.drop, Fo.cons.injEq] at e; obtain ⟨rfl, rfl, rfl⟩ := e; simp [Fo.take, seqAt]
    | succ k =>
      simp only [Fo.drop] at e
      have := ih pre (i + 1) e
      simp only [Fo.take, seqAt]
      rw [this, show i + 1 + k = i + (k + 1) by omega]
      simp
theorem seqAt_len : ∀ (f : Fo) (pre : List Nat) (i : Nat), (seqAt pre i f).length = f.size
  | .nil, _, _ => rfl
  | .cons h ks r, pre, i => by simp [seqAt, Fo.size, seqAt_len ks, seqAt_len r]

abbrev pathVals (p : List Nat) : List Value := p.map fun (i : Nat) => Value.int .i64 i
abbrev pathInts (p : List Nat) : List Int := p.map fun (i : Nat) => (i : Int)
/-- a tree as it is handed over. -/
def TreeAt (W : World) (tv : Value) (h : Hd) (ks : Fo) : Prop :=
  ∃ va kv, tv = .agg #[.int .i64 h.k, .string ⟨h.l.toArray⟩, va, .int .i64 h.n, .int .i64 h.d, .string ⟨h.x.toArray⟩, kv] ∧ AttrsLie W va h.ats ∧ Lies W kv ks
def EncVis (f : Fo) (w0 : World) (x : Vis) (args : Array Value) (W : World) : Prop :=
  ∃ pv tv, args = #[pv, tv] ∧ IntsLie W pv (pathInts x.p) ∧ TreeAt w0 tv x.h x.ks ∧ x ∈ seqAt [] 0 f

/-- the iterator's own cells. -/
structure IterAt (n₀ pp py pa l : Nat) (pre : List Nat) (v : Value) (G : Nat → Prop) (W : World) : Prop where
  box : Boxed W pp 41 v
  row : W.ownsRow n₀ 3 1 v pre.length (pathVals pre)
  ob : ∀ k, v.ownBlock = some k → ¬ G k
  y : Boxed W py 128 (.func (.yield l) #[] #[])
  a : Boxed W pa 30 (.func (.func 124) #[] #[.pointer (some ⟨pp, 0, none⟩), .pointer (some ⟨py, 0, none⟩), .pointer (some ⟨pa, 0, none⟩)])
  gp : ¬ G pp
  gy : ¬ G py
  ga : ¬ G pa
  np : n₀ ≤ pp

theorem boxed_ne {W : World} {B B' : Nat} {t t' : TypeId} {v v' : Value} (h : Boxed W B t v) (h' : Boxed W B' t' v') (ht : t ≠ t') : B ≠ B' := by
  rintro rfl
  have := (show W.heap[B]? = _ from h).symm.trans (show W.heap[B]? = _ from h')
  simp at this
  exact ht this.2
theorem boxed_of {W W' : World} {B : Nat} {t : TypeId} {v : Value} (h : Boxed W B t v) (hb : W'.heap[B]? = W.heap[B]?) : Boxed W' B t v := hb.trans h
theorem row_of {W W' : World} {base : Nat} {e : TypeId} {v : Value} {n : Nat} {xs : List Value} (h : W.ownsRow base e 1 v n xs) (hb : ∀ k, v.ownBlock = some k → W'.heap[k]? = W.heap[k]?) : W'.ownsRow base e 1 v n xs := by
  refine ⟨h.1, ?_⟩
  rcases h.2 with h2 | ⟨g, cap, cur, rfl, h3, h4, h5⟩
  · exact .inl h2
  · exact .inr ⟨g, cap, cur, rfl, h3, (hb g rfl).trans h4, h5⟩
theorem row_lt {W : World} {base : Nat} {e : TypeId} {v : Value} {n : Nat} {xs : List Value} (h : W.ownsRow base e 1 v n xs) {k : Nat} (hk : v.ownBlock = some k) : k < W.heap.size := (h.lt k hk).2

/-- what was the iterator's stays so, though blocks of G, and new ones, are written. -/
theorem IterAt.round {n₀ pp py pa l : Nat} {pre : List Nat} {v : Value} {G G' : Nat → Prop} {W W' : World} (h : IterAt n₀ pp py pa l pre v G W) (hb : But G W W') (hG : ∀ k, G' k → G k ∨ W.heap.size ≤ k) : IterAt n₀ pp py pa l pre v G' W' := by
  have kb := fun {B : Nat} (hB : B < W.heap.size) (hn : ¬ G B) => hb.block B hB hn
  have nG : ∀ {B : Nat}, B < W.heap.size → ¬ G B → ¬ G' B := fun hB hn hg => (hG _ hg).elim hn (fun h' => by omega)
  exact ⟨boxed_of h.box (kb h.box.lt h.gp), row_of h.row (fun k hk => kb (row_lt h.row hk) (h.ob k hk)), fun k hk => nG (row_lt h.row hk) (h.ob k hk),
    boxed_of h.y (kb h.y.lt h.gy), boxed_of h.a (kb h.a.lt h.ga), nG h.box.lt h.gp, nG h.y.lt h.gy, nG h.a.lt h.ga, h.np⟩

/-- one index more. -/
theorem IterAt.append {n₀ pp py pa l k : Nat} {pre : List Nat} {v v' : Value} {G : Nat → Prop} {wr w2 : World} {tobj tmp : Obj} (h : IterAt n₀ pp py pa l pre v G wr) (hG : ∀ j, G j → j < wr.heap.size) (hn : n₀ ≤ wr.heap.size)
    (hown : w2.ownsRow n₀ 3 1 v' (pre.length + 1) (pathVals pre ++ [.int .i64 k])) (hgrow : ((wr.alloc tobj).alloc tmp).grownBy w2 v.ownBlock) (hat : v'.ownBlock = v.ownBlock ∨ v'.ownBlock = some (wr.heap.size + 1 + 1)) :
    Boxed w2 pp 41 v ∧ IterAt n₀ pp py pa l (pre ++ [k]) v' G (w2.setCell ⟨pp, 0, none⟩ v') ∧ Spared G wr (w2.setCell ⟨pp, 0, none⟩ v') ∧ Below n₀ wr (w2.setCell ⟨pp, 0, none⟩ v') ∧
      w2.heap[wr.heap.size]? = some tobj ∧ wr.heap.size < w2.heap.size ∧ pp < wr.heap.size := by
  have e1 : 41 ≠ 3 := by decide
  have e2 : 128 ≠ 3 := by decide
  have e3 : 30 ≠ 3 := by decide
  have k1 := (h.box.alloc tobj).alloc tmp
  have k2 := (h.y.alloc tobj).alloc tmp
  have k3 := (h.a.alloc tobj).alloc tmp
  have kr := (h.row.alloc tobj).alloc tmp
  have b1 := k1.kept hgrow (k1.not_row e1 kr)
  have b2 := k2.kept hgrow (k2.not_row e2 kr)
  have b3 := k3.kept hgrow (k3.not_row e3 kr)
  have n2 : py ≠ pp := boxed_ne h.y h.box (by decide)
  have n3 : pa ≠ pp := boxed_ne h.a h.box (by decide)
  have hs := hgrow.size
  simp at hs
  have vlt : ∀ j, v.ownBlock = some j → j < wr.heap.size := fun j hj => row_lt h.row hj
  have tb : w2.heap[wr.heap.size]? = some tobj := by
    rw [hgrow.block _ (by simp; omega) (fun e => by have := vlt _ e.symm; omega)]
    rw [Below.heap_alloc _ _ _ (by simp)]
    exact World.alloc_heap_new _ _
  have ob' : ∀ j, v'.ownBlock = some j → ¬ G j := fun j hj => by
    rcases hat with e | e
    · exact h.ob j (by rw [← e]; exact hj)
    · rw [hj] at e
      intro hg
      have := hG j hg
      simp at e
      omega
  refine ⟨b1, ⟨b1.set v', by simpa using hown.kept (grownBy_setCell' w2 pp v') (.inr (b1.not_row e1 hown).symm), ob', b2.other n2 _, b3.other n3 _, h.gp, h.gy, h.ga, h.np⟩, ?_, ?_, tb, by omega, h.box.lt⟩
  · refine (((Spared.alloc hG tobj).trans (Spared.alloc (fun j hj => by have := hG j hj; simp; omega) tmp)).trans (Spared.grown (fun j hj => by have := hG j hj; simp; omega) hgrow h.ob)).trans (Spared.setCell _ h.gp _)
  · refine ((((Below.refl n₀ wr).alloc hn tobj).alloc (by simp; omega) tmp).grown hgrow (by simp; omega) (fun j hj => (h.row.lt j hj).1)).setCell h.np _

/-- the last index goes. -/
theorem IterAt.pop {n₀ pp py pa l k g cap : Nat} {pre : List Nat} {G : Nat → Prop} {W : World} (h : IterAt n₀ pp py pa l (pre ++ [k]) (.slice (some ⟨g, 0, none⟩) (pre.length + 1) cap) G W) :
    IterAt n₀ pp py pa l pre (.slice (some ⟨g, 0, none⟩) pre.length cap) G (W.setCell ⟨pp, 0, none⟩ (.slice (some ⟨g, 0, none⟩) pre.length cap)) := by
  have e1 : 41 ≠ 3 := by decide
  have n2 : py ≠ pp := boxed_ne h.y h.box (by decide)
  have n3 : pa ≠ pp := boxed_ne h.a h.box (by decide)
  have r : W.ownsRow n₀ 3 1 (.slice (some ⟨g, 0, none⟩) (pre.length + 1) cap) (pre.length + 1) (pathVals pre ++ [.int .i64 k]) := by simpa using h.row
  have r2 := ownsRow_pop (by simp) r
  exact ⟨h.box.set _, r2.kept (grownBy_setCell' W pp _) (.inr (h.box.not_row e1 r2).symm), fun j hj => h.ob j hj, h.y.other n2 _, h.a.other n3 _, h.gp, h.gy, h.ga, h.np⟩

theorem info_int : (Tryz.prog.info? 3).map (fun i => (i.zero, i.size, i.bytes)) = some (some (.int .i64 0), 1, 8) := by kernel_rfl
theorem path_lies {W : World} {base : Nat} {v : Value} {p : List Nat} (h : W.ownsRow base 3 1 v p.length (pathVals p)) : IntsLie W v (pathInts p) := by
  rcases h.2 with ⟨rfl, h0⟩ | ⟨g, cap, cur, rfl, hb, hg, hn, hcap, hs, ht⟩
  · exact .inl ⟨_, _, rfl, by simp [List.eq_nil_of_length_eq_zero h0]⟩
  · refine .inr ⟨g, 0, cap, by simp, by simpa using hn, ?_, fun k hk => ?_⟩
    · rcases Nat.lt_or_ge g W.heap.size with hlt | hge
      · exact hlt
      · rw [Array.getElem?_eq_none hge] at hg; cases hg
    · rw [Nat.zero_add]
      have hk' : k < p.length := by simpa using hk
      refine cell_of_block (T := 3) hg ?_
      have h1 : (cur.toList.take (p.length * 1))[k]? = (pathVals p)[k]? := by rw [ht]
      rw [List.getElem?_take, if_pos (by omega), List.getElem?_map, List.getElem?_eq_getElem hk'] at h1
      rw [List.getD_eq_getElem?_getD, List.getElem?_map, List.getElem?_eq_getElem hk', ← Array.getElem?_toList]
      simpa using h1

end Go.Proofs.YtefongoinlcgaaaGreat

/- package tree: the closure that goes through a forest, tree by tree. -/
namespace Go.Proofs.YtefongoinlcgaaaGreat
open Go.RowKit Go.Shelf

attribute [local go_sem] Oper.semAt_some

theorem seqAt_take_mem : ∀ {f : Fo} {k : Nat} {pre : List Nat} {i : Nat} {x : Vis}, x ∈ seqAt pre i (f.take k) → x ∈ seqAt pre i f
  | .nil, k, pre, i, x, h => by cases k <;> simpa [Fo.take] using h
  | .cons h0 k0 r0, 0, pre, i, x, h => by simp [Fo.take, seqAt] at h
  | .cons h0 k0 r0, k + 1, pre, i, x, h => by
    simp only [Fo.take, seqAt, List.mem_cons, List.mem_append] at h ⊢
    rcases h with h | h | h
    · exact .inl h
    · exact .inr (.inl h)
    · exact .inr (.inr (seqAt_take_mem h))
theorem seqAt_take_prefix : ∀ (f : Fo) (k : Nat) (pre : List Nat) (i : Nat), seqAt pre i (f.take k) <+: seqAt pre i f
  | .nil, k, pre, i => by cases k <;> simp [Fo.take, seqAt]
  | .cons h0 k0 r0, 0, pre, i => by simp [Fo.take, seqAt]
  | .cons h0 k0 r0, k + 1, pre, i => by
    simp only [Fo.take, seqAt]
    obtain ⟨t, ht⟩ := seqAt_take_prefix r0 k pre (i + 1)
    exact ⟨t, by rw [← ht]; simp⟩
theorem row_cap {W : World} {base g n cap : Nat} {e : TypeId} {xs : List Value} (h : W.ownsRow base e 1 (.slice (some ⟨g, 0, none⟩) n cap) n xs) : n ≤ cap := by
  rcases h.2 with ⟨h1, _⟩ | ⟨g', cap', cur, h1, _, _, h2, _⟩
  · simp at h1
  · simp only [Value.slice.injEq] at h1; omega
theorem pathVals_len (p : List Nat) : (pathVals p).length = p.length := by simp

set_option maxRecDepth 100000 in
set_option maxHeartbeats 4000000 in
theorem all_iter (f0 : Fo) (w0 : World) (l pp py pa : Nat) (J : List Vis → (Nat → Prop) → World → Prop) (Jx : List Vis → World → Prop)
    (hJ : ∀ s G W W', J s G W → Spared G W W' → J s G W') (hJs : ∀ s G W, J s G W → ∀ k, G k → k < W.heap.size)
    (hY : ∀ m s x args G W1, J s G W1 → EncVis f0 w0 x args W1 → YieldAt Fence.wide m Tryz.prog l args W1 fun e W' =>
      (e = .returned (.bool true) ∧ ∃ G', (∀ k, G' k → G k ∨ W1.heap.size ≤ k) ∧ J (s ++ [x]) G' W' ∧ But G W1 W' ∧ Below w0.heap.size W1 W') ∨ (e = .returned (.bool false) ∧ Jx (s ++ [x]) W')) :
    ∀ (q : Nat) (f : Fo) (v : Value) (pre : List Nat) (s : List Vis) (pv : Value) (G : Nat → Prop) (W : World) (m : Nat), f.size ≤ q → pre.length + f.size ≤ 1000000 → Lies w0 v f → Below w0.heap.size w0 W →
      (∀ x ∈ seqAt pre 0 f, x ∈ seqAt [] 0 f0) → J s G W → IterAt w0.heap.size pp py pa l pre pv G W →
      CallsIn Fence.wide m Tryz.prog 124 #[v, .pointer (some ⟨pp, 0, none⟩), .pointer (some ⟨py, 0, none⟩), .pointer (some ⟨pa, 0, none⟩)] W fun e W' =>
        (e = .returned (.bool true) ∧ ∃ pv' G', (∀ k, G' k → G k ∨ W.heap.size ≤ k) ∧ J (s ++ seqAt pre 0 f) G' W' ∧ IterAt w0.heap.size pp py pa l pre pv' G' W' ∧ Below w0.heap.size W W') ∨
        (e = .returned (.bool false) ∧ ∃ s', s' <+: s ++ seqAt pre 0 f ∧ Jx s' W') := by
  intro q
  induction q using Nat.strongRecOn with
  | ind q ih =>
    intro f v pre s pv0 G W m hq hpl hl hbw hin hj hit
    have HL := Lib.hid hl
    have IH := Lib.hid ih
    have HY := Lib.hid hY
    have HJ := Lib.hid hJ
    have HJS := Lib.hid hJs
    have HIN := Lib.hid hin
    have hlen := lies_len hl
    obtain ⟨a, cap, rfl⟩ := lies_form hl
    clear hl ih hY hJ hJs hin
    have hkW : Below w0.heap.size W W := Below.refl _ _
    obtain ⟨i0, hi, hz0, hz1, hz2⟩ := info_parts info_int
    refine callsIn_of_wp Tryz.func124 rfl trivial ?_ rfl
    simp only [Tryz.ntmps124, List.size_toArray, List.length_cons, List.length_nil, Nat.reduceAdd, Nat.reduceSub, Array.replicate_succ, Array.replicate_zero, List.push_toArray, List.append_toArray, List.nil_append, List.cons_append]
    gi_wp2_with fail
    gi_loopw [10] (fun i wr => ∃ (k : Nat) (pv : Value) (G' : Nat → Prop), i = .int .i64 k ∧ k ≤ f.len ∧ (∀ j, G' j → G j ∨ W.heap.size ≤ j) ∧ J (s ++ seqAt pre 0 (f.take k)) G' wr ∧ IterAt w0.heap.size pp py pa l pre pv G' wr ∧ Below w0.heap.size W wr) (fun i _ => f.len - (intOf i).toNat)
    case atStart => exact ⟨0, pv0, G, rfl, Nat.zero_le _, fun _ h => .inl h, by simpa [Fo.take, seqAt] using hj, hit, hkW⟩
    case round =>
      obtain ⟨k, pv, G', rfl, hk, hG', hj', hit', hbr⟩ := hrel
      clear hj hit
      by_cases hlt : k < f.len
      · obtain ⟨b, o, cap', hs, hcap, -, hb, hrow⟩ := lies_row HL.out (by omega)
        simp only [Value.slice.injEq] at hs
        obtain ⟨rfl, -, rfl⟩ := hs
        obtain ⟨hd, ks, e, ⟨d0, d1, ⟨va, d2, ha⟩, d3, d4, d5⟩, vk, d6, hlk⟩ := row_get hrow hlt
        have hb0 : Below w0.heap.size w0 wr := hbw.trans hbr
        have c0 := (hb0.cell (p := ⟨b, o + k * 7, none⟩) hb).trans d0
        have c1 := (hb0.cell (p := ⟨b, o + k * 7 + 1, none⟩) hb).trans d1
        have c2 := (hb0.cell (p := ⟨b, o + k * 7 + 2, none⟩) hb).trans d2
        have c3 := (hb0.cell (p := ⟨b, o + k * 7 + 3, none⟩) hb).trans d3
        have c4 := (hb0.cell (p := ⟨b, o + k * 7 + 4, none⟩) hb).trans d4
        have c5 := (hb0.cell (p := ⟨b, o + k * 7 + 5, none⟩) hb).trans d5
        have c6 := (hb0.cell (p := ⟨b, o + k * 7 + 6, none⟩) hb).trans d6
        have hsz : w0.heap.size ≤ wr.heap.size := hb0.size
        have hbr' : b < wr.heap.size := by omega
        have HSEQ := Lib.hid (seqAt_take_succ pre 0 e)
        have HSEQ2 := Lib.hid (show ∀ x ∈ seqAt pre 0 (f.take (k + 1)), x ∈ seqAt pre 0 f from fun x hx => seqAt_take_mem hx)
        have hks := kid_size e
        obtain ⟨aa, ca, rfl⟩ := attrs_form ha
        obtain ⟨ak, ck, rfl⟩ := lies_form hlk
        have hppz := hit'.box.lt
        have hcp := hit'.box.cell
        have HJ2 := Lib.hid hj'
        have HG2 := Lib.hid hG'
        have HIT := Lib.hid hit'
        have HLK := Lib.hid hlk
        have HA := Lib.hid ha
        have HR := Lib.hid hit'.row
        have hpl' : pre.length + 1 ≤ 1000000 := by omega
        have hc5 : w0.heap.size ≤ wr.heap.size + 1 + 1 := by omega
        clear e hrow hj' hG' hit' hlk ha d0 d1 d2 d3 d4 d5 d6
        gi_wp2_with (gi_at_builtin; refine wpListIn_append_own_at _ rfl _ _ 41 rfl w0.heap.size 3 i0 (.int .i64 0) 1 8 Tryz.underlying41 hi hz0 hz1 hz2 rfl (by decide) _ _ _ rfl ((HR.out.alloc _).alloc _) ⟨wr.heap.size + 1, 0, none⟩ 1 1 [.int .i64 k] rfl rfl (by simpa using cell_one_new (wr.alloc _) (.int .i64 k) 3) (by simp [Value.oneCell']) (by unfold maxLen; omega) (by omega) (by simp; omega) ?stop)
        case stop =>
          intro v' w2 hown hgrow _ hat
          obtain ⟨g', capp, rfl⟩ := ownsRow_succ hown
          obtain ⟨q1, q2, q3, q4, q5, q6, q7⟩ := HIT.out.append (HJS.out _ _ _ HJ2.out) hsz hown hgrow (by simpa using hat)
          have hcp2 := q1.cell
          have hfp2 := q1.frozen
          have n2 := boxed_ne q2.y q2.box (by decide)
          have hcy2 := (boxed_of q2.y (Below.heap_setCell _ ⟨pp, 0, none⟩ _ _ n2).symm).cell
          have J3 := HJ.out _ _ _ _ HJ2.out q3
          have B3 : Below w0.heap.size w0 (w2.setCell ⟨pp, 0, none⟩ (.slice (some ⟨g', 0, none⟩) (pre.length + 1) capp)) := hb0.trans q4
          have E3 : EncVis f0 w0 ⟨pre ++ [k], hd, ks⟩ #[.slice (some ⟨g', 0, none⟩) (pre.length + 1) capp, .agg #[.int .i64 hd.k, .string ⟨hd.l.toArray⟩, .slice aa hd.ats.length ca, .int .i64 hd.n, .int .i64 hd.d, .string ⟨hd.x.toArray⟩, .slice ak ks.len ck]] (w2.setCell ⟨pp, 0, none⟩ (.slice (some ⟨g', 0, none⟩) (pre.length + 1) capp)) := ⟨_, _, rfl, (by simpa using path_lies q2.row), ⟨_, _, rfl, HA.out, HLK.out⟩, HIN.out _ (HSEQ2.out _ (by rw [HSEQ.out]; simp))⟩
          obtain ⟨fn, tmps, assign, body, hyy, hR⟩ := HY.out (m - 1) _ _ _ _ _ J3 E3
          have t0 : w2.cell? ⟨wr.heap.size, 0, none⟩ = _ := cell_of_block q5 rfl
          have t1 : w2.cell? ⟨wr.heap.size, 1, none⟩ = _ := cell_of_block q5 rfl
          have t2 : w2.cell? ⟨wr.heap.size, 2, none⟩ = _ := cell_of_block q5 rfl
          have t3 : w2.cell? ⟨wr.heap.size, 3, none⟩ = _ := cell_of_block q5 rfl
          have t4 : w2.cell? ⟨wr.heap.size, 4, none⟩ = _ := cell_of_block q5 rfl
          have t5 : w2.cell? ⟨wr.heap.size, 5, none⟩ = _ := cell_of_block q5 rfl
          have t6 : w2.cell? ⟨wr.heap.size, 6, none⟩ = _ := cell_of_block q5 rfl
          have nb1 : ¬ wr.heap.size = pp := by omega
          have nb2 : ¬ pp = wr.heap.size := by omega
          have n3 : ¬ py = pp := n2
          have n4 : ¬ pp = py := fun e => n2 e.symm
          have HQ2 := Lib.hid q2
          have HQ3 := Lib.hid q3
          have HQ4 := Lib.hid q4
          have HQ5 := Lib.hid q5
          have HJ3 := Lib.hid J3
          clear q1 q2 q3 q4 q5 hown hgrow hat J3 E3 n2
          gi_wp2_with fail
          refine ⟨fun h => (by cases h), hR.mono ?_⟩
          rintro e W4 (⟨rfl, G2, hG2, hJ4, hbut, hbl⟩ | ⟨rfl, hJx⟩)
          · have it4 := HQ2.out.round hbut hG2
            have hca4 := it4.a.cell
            have tb4 : W4.heap[wr.heap.size]? = w2.heap[wr.heap.size]? := (hbut.block _ (by simp; omega) (fun h => by have := HJS.out _ _ _ HJ2.out _ h; omega)).trans (Below.heap_setCell _ _ _ _ (by simpa using nb1))
            have t46 : W4.cell? ⟨wr.heap.size, 6, none⟩ = _ := cell_of_block (tb4.trans HQ5.out) rfl
            have B4 : Below w0.heap.size w0 W4 := B3.trans hbl
            have N4 := Lib.hid (IH.out ks.size (by omega) ks (.slice ak ks.len ck) (pre ++ [k]) _ _ G2 W4 (m - 1) (Nat.le_refl _) (by simp; omega) HLK.out B4 (fun x hx => HIN.out _ (HSEQ2.out _ (by rw [HSEQ.out]; simp at hx ⊢; exact .inr (.inr hx)))) hJ4 it4)
            clear hJ4 it4 hyy hR
            have HB4 := Lib.hid (HQ4.out.trans hbl)
            have HG4 := Lib.hid (show ∀ j, G2 j → G j ∨ W.heap.size ≤ j from fun j h => (hG2 j h).elim (HG2.out j) fun h' => .inr (by have := hbr.size; have := HQ4.out.size; omega))
            gi_wp2_with fail
            refine ⟨trivial, fun h => (by cases h), N4.out.mono ?_⟩
            rintro e W5 (⟨rfl, pv5, G3, hG3, hJ5, it5, hbl5⟩ | ⟨rfl, s', hs', hJx⟩)
            · have r5 : W5.ownsRow w0.heap.size 3 1 pv5 (pre.length + 1) (pathVals (pre ++ [k])) := by simpa using it5.row
              obtain ⟨g5, c5', rfl⟩ := ownsRow_succ r5
              have rc5 := row_cap r5
              have hp5 := it5.box.cell
              have hf5 := it5.box.frozen
              have HIP := Lib.hid it5.pop
              have HGP := Lib.hid it5.gp
              have HJ5 := Lib.hid hJ5
              have HB5 := Lib.hid (((hbr.trans HB4.out).trans hbl5).setCell (p := ⟨pp, 0, none⟩) it5.np (.slice (some ⟨g5, 0, none⟩) pre.length c5'))
              have HG5 := Lib.hid (show ∀ j, G3 j → G j ∨ W.heap.size ≤ j from fun j h => (hG3 j h).elim (HG4.out j) fun h' => .inr (by have := hbr.size; have := HB4.out.size; omega))
              clear hJ5 it5 N4 r5 hG3 hbl5
              gi_wp2_with fail
              go_roundw
              case rel => exact ⟨k + 1, _, G3, by go_num, by omega, HG5.out, HJ.out _ _ _ _ (by
                have := HJ5.out
                rw [HSEQ.out]
                simpa using this) (Spared.setCell _ HGP.out _), HIP.out, HB5.out⟩
              case measure => simp [intOf]; omega
            · have HXX := Lib.hid hJx
              have HP := Lib.hid hs'
              clear hJx hs' N4
              gi_wp2_with fail
              go_ret
              exact .inr ⟨rfl, s', HP.out.trans (by
                obtain ⟨t, ht⟩ := seqAt_take_prefix f (k + 1) pre 0
                exact ⟨t, by rw [← ht, HSEQ.out]; simp⟩), HXX.out⟩
          · have HXX := Lib.hid hJx
            clear hJx hyy hR
            gi_wp2_with fail
            refine ⟨fun _ h => (by cases h), ?_⟩
            gi_wp2_with fail
            go_ret
            exact .inr ⟨rfl, _, (by
                obtain ⟨t, ht⟩ := seqAt_take_prefix f (k + 1) pre 0
                exact ⟨seqAt (pre ++ [k]) 0 ks ++ t, by rw [← ht, HSEQ.out]; simp⟩), HXX.out⟩
      · have HX := Lib.hid (show f.take k = f by rw [show k = f.len by omega, Fo.take_len])
        have HJ2 := Lib.hid hj'
        have HG2 := Lib.hid hG'
        have HI2 := Lib.hid hit'
        clear hj' hG' hit'
        gi_wp2_with fail
        go_ret
        exact .inl ⟨rfl, pv, G', HG2.out, by rw [HX.out] at HJ2; exact HJ2.out, HI2.out, hbr⟩

/-- the forest's trees, as the statement takes them. -/
theorem trees_seq (f : Fo) (v : Value) (w0 : World) (bf : Nat) (hl : Lies w0 v f) (hs : f.size ≤ 1000000) :
    SeqOwn Tryz.prog 123 #[.pointer (some ⟨bf, 0, none⟩)] (EncVis f w0) (fun xs => xs = seqAt [] 0 f) (fun pre => pre <+: seqAt [] 0 f) w0.heap.size
      (fun W => Below w0.heap.size w0 W ∧ W.cell? ⟨bf, 0, none⟩ = some v) := by
  intro m l J Jx G W ⟨hb, hc⟩ hJ hJs hY _ h0
  have HL := Lib.hid hl
  have HY := Lib.hid hY
  have HJ := Lib.hid hJ
  have HJS := Lib.hid hJs
  have H0 := Lib.hid h0
  clear hl hY hJ hJs h0
  have hbf : bf < W.heap.size := blk_lt hc
  refine callsIn_of_wp Tryz.func123 rfl trivial ?_ rfl
  simp only [Tryz.ntmps123, List.size_toArray, List.length_cons, List.length_nil, Nat.reduceAdd, Nat.reduceSub, Array.replicate_succ, Array.replicate_zero, List.push_toArray, List.append_toArray, List.nil_append, List.cons_append]
  have hbf1 : bf < W.heap.size + 1 := by omega
  have hbf2 : bf < W.heap.size + 1 + 1 := by omega
  have n1 : ¬ bf = W.heap.size := by omega
  have n2 : ¬ bf = W.heap.size + 1 := by omega
  have n3 : ¬ bf = W.heap.size + 1 + 1 := by omega
  gi_wp2_with fail
  obtain ⟨W3, hW3⟩ : ∃ W3, ((W.alloc (.cells #[.func (.yield l) #[] #[]] 128)).alloc (.cells #[.slice none 0 0] 41)).alloc (.cells #[.func (.func 124) #[] #[.pointer (some ⟨W.heap.size + 1, 0, none⟩), .pointer (some ⟨W.heap.size, 0, none⟩), .pointer (some ⟨W.heap.size + 1 + 1, 0, none⟩)]] 30) = W3 := ⟨_, rfl⟩
  have hz := hb.size
  have hG := HJS.out _ _ _ H0.out
  have b1 : Boxed W3 W.heap.size 128 (.func (.yield l) #[] #[]) := by rw [← hW3]; exact ((Boxed.new W _ _).alloc _).alloc _
  have b2 : Boxed W3 (W.heap.size + 1) 41 (.slice none 0 0) := by
    rw [← hW3]
    have := Boxed.new (W.alloc (.cells #[.func (.yield l) #[] #[]] 128)) 41 (.slice none 0 0)
    rw [World.size_alloc] at this
    exact this.alloc _
  have b3 : Boxed W3 (W.heap.size + 1 + 1) 30 (.func (.func 124) #[] #[.pointer (some ⟨W.heap.size + 1, 0, none⟩), .pointer (some ⟨W.heap.size, 0, none⟩), .pointer (some ⟨W.heap.size + 1 + 1, 0, none⟩)]) := by
    rw [← hW3]
    have := Boxed.new ((W.alloc (.cells #[.func (.yield l) #[] #[]] 128)).alloc (.cells #[.slice none 0 0] 41)) 30 (.func (.func 124) #[] #[.pointer (some ⟨W.heap.size + 1, 0, none⟩), .pointer (some ⟨W.heap.size, 0, none⟩), .pointer (some ⟨W.heap.size + 1 + 1, 0, none⟩)])
    rw [World.size_alloc, World.size_alloc] at this
    exact this
  have sp : Spared G W W3 := by
    rw [← hW3]
    exact ((Spared.alloc hG _).trans (Spared.alloc (fun k hk => by have := hG k hk; simp; omega) _)).trans (Spared.alloc (fun k hk => by have := hG k hk; simp; omega) _)
  have bl : Below w0.heap.size W W3 := by
    rw [← hW3]
    exact (((Below.refl _ _).alloc hz _).alloc (by simp; omega) _).alloc (by simp; omega) _
  have it : IterAt w0.heap.size (W.heap.size + 1) W.heap.size (W.heap.size + 1 + 1) l [] (.slice none 0 0) G W3 :=
    ⟨b2, World.ownsRow_nil _ _ _ _, fun k hk => by simp [Value.ownBlock] at hk, b1, b3, fun h => by have := hG _ h; omega, fun h => by have := hG _ h; omega, fun h => by have := hG _ h; omega, by omega⟩
  rw [hW3]
  refine ⟨trivial, fun h => (by cases h), (all_iter f w0 l _ _ _ J Jx HJ.out HJS.out HY.out f.size f v [] [] _ G W3 (m - 1) (Nat.le_refl _) (by simpa using hs) HL.out (hb.trans bl) (fun x hx => hx) (HJ.out _ _ _ _ H0.out sp) it).mono ?_⟩
  rintro e W5 (⟨rfl, pv5, G3, hG3, hJ5, it5, hbl5⟩ | ⟨rfl, s', hs', hJx⟩)
  · have H5 := Lib.hid hJ5
    clear hJ5
    gi_wp2_with fail
    go_end0
    exact ⟨⟨_, rfl⟩, .inl ⟨_, _, rfl, by simpa using H5.out⟩⟩
  · have H5 := Lib.hid hJx
    have H6 := Lib.hid hs'
    clear hJx hs'
    gi_wp2_with fail
    go_end0
    exact ⟨⟨_, rfl⟩, .inr ⟨_, by simpa using H6.out, H5.out⟩⟩
end Go.Proofs.YtefongoinlcgaaaGreat

/- package tree: how many trees, how deep; the bounds. -/
namespace Go.Proofs.YtefongoinlcgaaaGreat
open Go.RowKit Go.Shelf

attribute [local go_sem] Oper.semAt_some

def maxP (d : Nat) (xs : List Vis) : Nat := xs.foldl (fun d x => max d x.p.length) d
theorem maxP_snoc (d : Nat) (xs : List Vis) (x : Vis) : maxP d (xs ++ [x]) = max (maxP d xs) x.p.length := by unfold maxP; rw [List.foldl_append]; rfl
theorem maxP_app (d : Nat) (xs ys : List Vis) : maxP d (xs ++ ys) = maxP (maxP d xs) ys := by unfold maxP; rw [List.foldl_append]
theorem maxP_seq : ∀ (f : Fo) (pre : List Nat) (i d : Nat), pre.length ≤ d → maxP d (seqAt pre i f) = max d (pre.length + f.deep)
  | .nil, pre, i, d, h => by show d = _; simp [Fo.deep]; omega
  | .cons h ks r, pre, i, d, hd => by
    have e : seqAt pre i (.cons h ks r) = [⟨pre ++ [i], h, ks⟩] ++ (seqAt (pre ++ [i]) 0 ks ++ seqAt pre (i + 1) r) := rfl
    rw [e, maxP_app, maxP_app]
    have e1 : maxP d [⟨pre ++ [i], h, ks⟩] = max d (pre.length + 1) := by simp [maxP]
    rw [e1, maxP_seq ks (pre ++ [i]) 0 _ (by simp; omega), maxP_seq r pre (i + 1) _ (by omega)]
    simp only [List.length_append, List.length_cons, List.length_nil, Fo.deep]
    omega

theorem wpInW_scope {P : Program} {n : Nat} {c : Code} {Q : Exit → Act → World → Prop} {a : Act} {w : World} (h : c.wpIn Fence.wide n P (Exit.noGoto Q) a w) : (Code.scope c).wpIn Fence.wide n P Q a w :=
  wpIn_wide.2 (wp_scope_straight (wpIn_wide.1 h))

set_option maxHeartbeats 1000000 in
theorem trees_in (m : Nat) (a : Option Addr) (len cap : Nat) (w : World) :
    CallsIn Fence.wide m Tryz.prog 79 #[.slice a len cap] w fun e w' => e = .returned (.func (.func 123) #[] #[.pointer (some ⟨w.heap.size, 0, none⟩)]) ∧ w' = w.alloc (.cells #[.slice a len cap] 28) := by
  refine callsIn_of_wp Tryz.func79 rfl trivial ?_ rfl
  simp only [Tryz.ntmps79, List.size_toArray, List.length_cons, List.length_nil, Nat.reduceAdd, Nat.reduceSub, Array.replicate_succ, Array.replicate_zero, List.push_toArray, List.append_toArray, List.nil_append, List.cons_append]
  gi_wp2
  go_ret
  exact ⟨rfl, rfl⟩

theorem But.setCell {G : Nat → Prop} (W : World) {p : Addr} (hp : G p.block) (u : Value) : But G W (W.setCell p u) :=
  ⟨by simp [World.setCell], fun k _ hn => Below.heap_setCell _ _ _ _ (fun e => hn (e ▸ hp))⟩

/-- what the count holds behind so many trees. -/
structure MeasI (w : World) (pre : List Vis) (G : Nat → Prop) (W : World) : Prop where
  g : ∀ k, G k ↔ k < w.heap.size + 3
  c0 : W.cell? ⟨w.heap.size, 0, none⟩ = some (.int .i64 pre.length)
  c1 : W.cell? ⟨w.heap.size + 1, 0, none⟩ = some (.int .i64 (maxP 0 pre : Nat))
  f0 : W.frozen? ⟨w.heap.size, 0, none⟩ = false
  f1 : W.frozen? ⟨w.heap.size + 1, 0, none⟩ = false
  few : pre.length ≤ 400
  size : w.heap.size + 3 ≤ W.heap.size
  bel : Below w.heap.size w W
/-- and where there were too many. -/
structure MeasX (w : World) (pre : List Vis) (W : World) : Prop where
  c0 : W.cell? ⟨w.heap.size, 0, none⟩ = some (.int .i64 401)
  c1 : ∃ d : Int, W.cell? ⟨w.heap.size + 1, 0, none⟩ = some (.int .i64 d)
  f0 : W.frozen? ⟨w.heap.size, 0, none⟩ = false
  f1 : W.frozen? ⟨w.heap.size + 1, 0, none⟩ = false
  many : 400 < pre.length
  size : w.heap.size + 3 ≤ W.heap.size
  bel : Below w.heap.size w W

set_option maxRecDepth 100000 in
set_option maxHeartbeats 4000000 in
theorem measure_in (f : Fo) (v : Value) (w : World) (hl : Lies w v f) (hs : f.size ≤ 1000000) :
    CallsIn Fence.wide 4 Tryz.prog 81 #[v] w fun e W' => ∃ s d : Int, e = .returned (.tuple #[.int .i64 s, .int .i64 d]) ∧ (f.size ≤ 400 → s = f.size ∧ d = f.deep) ∧ (400 < f.size → s = 401) ∧ Below w.heap.size w W' := by
  obtain ⟨a, cap, rfl⟩ := lies_form hl
  refine callsIn_of_wp_marks Tryz.func81 rfl trivial ?_ rfl
  simp only [Tryz.ntmps81, List.size_toArray, List.length_cons, List.length_nil, Nat.reduceAdd, Nat.reduceSub, Array.replicate_succ, Array.replicate_zero, List.push_toArray, List.append_toArray, List.nil_append, List.cons_append]
  gi_wp2_with fail
  refine wpInW_scope ?_
  gi_step
  refine wpIn_label ?_
  gi_wp2_with (refine ⟨trivial, ?_⟩; gi_at_call 79; refine (trees_in _ _ _ _ _).mono ?_; rintro e w' ⟨rfl, rfl⟩)
  obtain ⟨W0, hW0⟩ : ∃ W0, ((w.alloc (.cells #[.int .i64 0] 3)).alloc (.cells #[.int .i64 0] 3)).alloc (.cells #[.slice a f.len cap] 28) = W0 := ⟨_, rfl⟩
  have hz0 : W0.heap.size = w.heap.size + 3 := by rw [← hW0]; simp
  have hB0 : Below w.heap.size w W0 := by rw [← hW0]; exact (((Below.refl _ w).alloc (Nat.le_refl _) _).alloc (by simp) _).alloc (by simp; omega) _
  have hN0 : MeasI w [] (fun k => k < w.heap.size + 3) W0 := by
    refine ⟨fun _ => Iff.rfl, ?_, ?_, ?_, ?_, by simp, by omega, hB0⟩ <;> (rw [← hW0]; simp [go_sem, maxP])
  have hc0 : W0.cell? ⟨w.heap.size + 1 + 1, 0, none⟩ = some (.slice a f.len cap) := by rw [← hW0]; simp [go_sem]
  rw [hW0]
  refine range_own (gf := 123) (lb := #[.pointer (some ⟨w.heap.size + 1 + 1, 0, none⟩)]) rfl (enters_of Tryz.func123 (by kernel_rfl) rfl)
    (trees_seq f (.slice a f.len cap) w (w.heap.size + 1 + 1) hl hs) (by omega) ?st (fun x args W h => by obtain ⟨_, _, rfl, _⟩ := h; rfl)
    (MeasI w) (fun c pre W => c = .exit 0 ∧ MeasX w pre W) (fun k => k < w.heap.size + 3) ?hI ?hIs ?hIx (fun k hk => by omega) hN0
    (fun x a' W => ∃ b0 c0 tv, a' = { tmps := #[.slice a f.len cap, undef, .pointer (some ⟨w.heap.size, 0, none⟩), .pointer (some ⟨w.heap.size + 1, 0, none⟩), .slice b0 x.p.length c0, .slice a f.len cap, .func (.func 123) #[] #[.pointer (some ⟨w.heap.size + 1 + 1, 0, none⟩)], .slice b0 x.p.length c0, tv, undef, undef, undef, undef, undef, undef, undef, undef, undef, undef, undef, undef, undef, undef], defers := [] })
    (fun x a' W l o o' _ _ h => h) ?assign ?body ?done ?stop
  case st =>
    intro o
    refine ⟨hB0.trans ((((Below.refl _ W0).alloc (Nat.le_refl _) _).alloc (by simp) _).mono hB0.size), ?_⟩
    simp [go_sem, hz0, hc0]
  case hI =>
    rintro s G W W' ⟨g, c0, c1, f0, f1, few, size, bel⟩ sp
    have b0 := sp.block _ ((g w.heap.size).2 (by omega))
    have b1 := sp.block _ ((g (w.heap.size + 1)).2 (by omega))
    exact ⟨g, (World.cell?_of_block (w := W) b0).trans c0, (World.cell?_of_block (w := W) b1).trans c1, (World.frozen?_of_block (w := W) b0).trans f0, (World.frozen?_of_block (w := W) b1).trans f1, few, Nat.le_trans size sp.size,
      bel.trans ⟨sp.os, sp.tape, sp.output, sp.size, fun k hk => sp.block k ((g k).2 (by omega))⟩⟩
  case hIs =>
    rintro s G W ⟨g, c0, c1, f0, f1, few, size, bel⟩ k hk
    have := (g k).1 hk; omega
  case hIx =>
    rintro c s W l o o' hl ho hc ⟨rfl, c0, ⟨d, c1⟩, f0, f1, many, size, bel⟩
    have hz := (Array.getElem?_eq_some_iff.1 ho).1
    have b0 : (W.putObj l o').heap[w.heap.size]? = W.heap[w.heap.size]? := World.putObj_heap_other (by omega)
    have b1 : (W.putObj l o').heap[w.heap.size + 1]? = W.heap[w.heap.size + 1]? := World.putObj_heap_other (by omega)
    exact ⟨rfl, (World.cell?_of_block (w := W) b0).trans c0, ⟨d, (World.cell?_of_block (w := W) b1).trans c1⟩, (World.frozen?_of_block (w := W) b0).trans f0, (World.frozen?_of_block (w := W) b1).trans f1, many, by simpa using size,
      bel.trans ⟨rfl, rfl, rfl, by simp, fun k hk => World.putObj_heap_other (by omega)⟩⟩
  case assign =>
    rintro n' l pre x args G W K hI ⟨pv, tv, rfl, hp, ht, hx⟩ hz hK
    obtain ⟨b0, c0, rfl⟩ := ints_form hp
    gi_wp2
    exact hK _ _ (But.refl _ _) (Below.refl _ _) hI ⟨b0, c0, tv, by simp⟩
  case body =>
    rintro n' l pre x a' G W ⟨g, c0, c1, f0, f1, few, size, bel⟩ ⟨b0, cc, tv, rfl⟩ hz
    have hG0 : G w.heap.size := (g _).2 (by omega)
    have hG1 : G (w.heap.size + 1) := (g _).2 (by omega)
    have HG := Lib.hid g
    have z0 : w.heap.size < W.heap.size := by omega
    have z1 : w.heap.size + 1 < W.heap.size := by omega
    have HM := Lib.hid (maxP_snoc 0 pre x)
    clear g
    by_cases h4 : pre.length = 400
    · have d4 : decide ((400 : Int) < (pre.length : Int) + 1) = true := by simp; omega
      have hlen : ((pre.length : Int) + 1) = 401 := by omega
      have HLN := Lib.hid hlen
      clear hlen h4
      gi_wp2
      exact ⟨But.setCell _ hG0 _, rfl, by rw [HLN.out]; exact (by simp (maxDischargeDepth := 8) [go_sem, *]), ⟨((maxP 0 pre : Nat) : Int), (by simp (maxDischargeDepth := 8) [go_sem, *])⟩, (by simp (maxDischargeDepth := 8) [go_sem, *]), (by simp (maxDischargeDepth := 8) [go_sem, *]), by simp; have := HLN.out; omega, (by first | assumption | (simp; done) | (simp; omega) | omega), by ((repeat' (first | exact Below.refl _ _ | assumption | refine Below.setCell ?_ ?_ _ | refine bdrewN ?_ _ | refine Below.drew ?_ | refine Below.alloc ?_ ?_ _ | refine bbehind ?_ (by assumption) ?_)); all_goals first | (simp; done) | (simp; omega) | omega)⟩
    · have d4 : decide ((400 : Int) < (pre.length : Int) + 1) = false := by simp; omega
      by_cases hm : maxP 0 pre < x.p.length
      · have dm : decide (((maxP 0 pre : Nat) : Int) < (x.p.length : Int)) = true := by simp; omega
        have HMM := Lib.hid (show maxP 0 (pre ++ [x]) = x.p.length by rw [HM.out]; omega)
        gi_wp2
        exact ⟨(But.setCell _ hG0 _).trans (But.setCell _ hG1 _), by ((repeat' (first | exact Below.refl _ _ | assumption | refine Below.setCell ?_ ?_ _ | refine bdrewN ?_ _ | refine Below.drew ?_ | refine Below.alloc ?_ ?_ _ | refine bbehind ?_ (by assumption) ?_)); all_goals first | (simp; done) | (simp; omega) | omega), G, fun k hk => .inl hk, HG.out, by simp [go_sem, *], by rw [HMM.out]; simp [go_sem, *], (by simp (maxDischargeDepth := 8) [go_sem, *]), (by simp (maxDischargeDepth := 8) [go_sem, *]), by simp; omega, (by first | assumption | (simp; done) | (simp; omega) | omega), by ((repeat' (first | exact Below.refl _ _ | assumption | refine Below.setCell ?_ ?_ _ | refine bdrewN ?_ _ | refine Below.drew ?_ | refine Below.alloc ?_ ?_ _ | refine bbehind ?_ (by assumption) ?_)); all_goals first | (simp; done) | (simp; omega) | omega)⟩
      · have dm : decide (((maxP 0 pre : Nat) : Int) < (x.p.length : Int)) = false := by simp; omega
        have HMM := Lib.hid (show maxP 0 (pre ++ [x]) = maxP 0 pre by rw [HM.out]; omega)
        gi_wp2
        exact ⟨But.setCell _ hG0 _, by ((repeat' (first | exact Below.refl _ _ | assumption | refine Below.setCell ?_ ?_ _ | refine bdrewN ?_ _ | refine Below.drew ?_ | refine Below.alloc ?_ ?_ _ | refine bbehind ?_ (by assumption) ?_)); all_goals first | (simp; done) | (simp; omega) | omega), G, fun k hk => .inl hk, HG.out, by simp [go_sem, *], by rw [HMM.out]; simp [go_sem, *], (by simp (maxDischargeDepth := 8) [go_sem, *]), (by simp (maxDischargeDepth := 8) [go_sem, *]), by simp; omega, (by first | assumption | (simp; done) | (simp; omega) | omega), by ((repeat' (first | exact Below.refl _ _ | assumption | refine Below.setCell ?_ ?_ _ | refine bdrewN ?_ _ | refine Below.drew ?_ | refine Below.alloc ?_ ?_ _ | refine bbehind ?_ (by assumption) ?_)); all_goals first | (simp; done) | (simp; omega) | omega)⟩
  case done =>
    rintro D ys G W hD rfl ⟨g, c0, c1, f0, f1, few, size, bel⟩ hK
    rw [seqAt_len] at c0 few
    rw [maxP_seq _ _ _ _ (by simp), show max 0 (([] : List Nat).length + f.deep) = f.deep by simp] at c1
    gi_wp2
    gi_region
    gi_wp2
    rw [Exit.noGoto_ret]
    have hK2 : (((W.setCell ⟨w.heap.size, 0, none⟩ (.int .i64 f.size)).setCell ⟨w.heap.size + 1, 0, none⟩ (.int .i64 f.deep)).drew).heap[D]? = some (.deferred (some [])) := (((KeepsOthers.setCell W _ _).trans (KeepsOthers.setCell _ _ _)).trans (KeepsOthers.drew _)).same D _ hK rfl
    refine ⟨by simp, .inl ⟨_, _, rfl, run_takeDeferred hK2, ?_⟩⟩
    have hb2 := belowK_b (w := W0) (Nat.le_refl _) _ D _ (.deferred none) (by simpa using hD) hK2 rfl rfl
    have v0 := hb2.cell (p := ⟨w.heap.size, 0, none⟩) (by show w.heap.size < _; omega)
    have v1 := hb2.cell (p := ⟨w.heap.size + 1, 0, none⟩) (by show w.heap.size + 1 < _; omega)
    have hbx : Below w.heap.size w (((W.setCell ⟨w.heap.size, 0, none⟩ (.int .i64 f.size)).setCell ⟨w.heap.size + 1, 0, none⟩ (.int .i64 f.deep)).drew) := by ((repeat' (first | exact Below.refl _ _ | assumption | refine Below.setCell ?_ ?_ _ | refine bdrewN ?_ _ | refine Below.drew ?_ | refine Below.alloc ?_ ?_ _ | refine bbehind ?_ (by assumption) ?_)); all_goals first | (simp; done) | (simp; omega) | omega)
    have hbb := hbx.trans (hb2.mono (by omega))
    have z0 : w.heap.size < W.heap.size := by omega
    have z1 : w.heap.size + 1 < W.heap.size := by omega
    generalize (((W.setCell ⟨w.heap.size, 0, none⟩ (.int .i64 f.size)).setCell ⟨w.heap.size + 1, 0, none⟩ (.int .i64 f.deep)).drew).putObj D (.deferred none) = Wf at v0 v1 hbb ⊢
    have u0 : Wf.cell? ⟨w.heap.size, 0, none⟩ = some (.int .i64 f.size) := by rw [v0]; exact (by simp (maxDischargeDepth := 8) [go_sem, *])
    have u1 : Wf.cell? ⟨w.heap.size + 1, 0, none⟩ = some (.int .i64 f.deep) := by rw [v1]; exact (by simp (maxDischargeDepth := 8) [go_sem, *])
    exact ⟨.tuple #[.int .i64 f.size, .int .i64 f.deep], by simp (maxDischargeDepth := 8) [results, go_sem, Tryz.results81, u0, u1], _, _, rfl, fun _ => ⟨rfl, rfl⟩, fun h => by omega, hbb⟩
  case stop =>
    rintro D c pre W hD hp ⟨rfl, c0, ⟨d, c1⟩, f0, f1, many, size, bel⟩ hK
    have hbig : 400 < f.size := by
      have := hp.length_le
      rw [seqAt_len] at this; omega
    gi_wp2
    gi_region
    gi_wp2
    rw [Exit.noGoto_ret]
    have hK2 : (((W.setCell ⟨w.heap.size, 0, none⟩ (.int .i64 401)).setCell ⟨w.heap.size + 1, 0, none⟩ (.int .i64 d)).drew).heap[D]? = some (.deferred (some [])) := (((KeepsOthers.setCell W _ _).trans (KeepsOthers.setCell _ _ _)).trans (KeepsOthers.drew _)).same D _ hK rfl
    refine ⟨by simp, .inl ⟨_, _, rfl, run_takeDeferred hK2, ?_⟩⟩
    have hb2 := belowK_b (w := W0) (Nat.le_refl _) _ D _ (.deferred none) (by simpa using hD) hK2 rfl rfl
    have v0 := hb2.cell (p := ⟨w.heap.size, 0, none⟩) (by show w.heap.size < _; omega)
    have v1 := hb2.cell (p := ⟨w.heap.size + 1, 0, none⟩) (by show w.heap.size + 1 < _; omega)
    have hbx : Below w.heap.size w (((W.setCell ⟨w.heap.size, 0, none⟩ (.int .i64 401)).setCell ⟨w.heap.size + 1, 0, none⟩ (.int .i64 d)).drew) := by ((repeat' (first | exact Below.refl _ _ | assumption | refine Below.setCell ?_ ?_ _ | refine bdrewN ?_ _ | refine Below.drew ?_ | refine Below.alloc ?_ ?_ _ | refine bbehind ?_ (by assumption) ?_)); all_goals first | (simp; done) | (simp; omega) | omega)
    have hbb := hbx.trans (hb2.mono (by omega))
    have z0 : w.heap.size < W.heap.size := by omega
    have z1 : w.heap.size + 1 < W.heap.size := by omega
    generalize (((W.setCell ⟨w.heap.size, 0, none⟩ (.int .i64 401)).setCell ⟨w.heap.size + 1, 0, none⟩ (.int .i64 d)).drew).putObj D (.deferred none) = Wf at v0 v1 hbb ⊢
    have u0 : Wf.cell? ⟨w.heap.size, 0, none⟩ = some (.int .i64 401) := by rw [v0]; exact (by simp (maxDischargeDepth := 8) [go_sem, *])
    have u1 : Wf.cell? ⟨w.heap.size + 1, 0, none⟩ = some (.int .i64 d) := by rw [v1]; exact (by simp (maxDischargeDepth := 8) [go_sem, *])
    exact ⟨.tuple #[.int .i64 401, .int .i64 d], by simp (maxDischargeDepth := 8) [results, go_sem, Tryz.results81, u0, u1], _, _, rfl, fun h => by omega, fun _ => rfl, hbb⟩
end Go.Proofs.YtefongoinlcgaaaGreat

/- package tree: Check, Size, Deep. -/
namespace Go.Proofs.YtefongoinlcgaaaGreat
open Go.RowKit Go.Shelf

attribute [local go_sem] Oper.semAt_some

theorem measure_any (f : Fo) (v : Value) (w : World) (hl : Lies w v f) (hs : f.size ≤ 1000000) :
    Calls Tryz.prog 81 #[v] w fun e W' => ∃ s d : Int, e = .returned (.tuple #[.int .i64 s, .int .i64 d]) ∧ (f.size ≤ 400 → s = f.size ∧ d = f.deep) ∧ (400 < f.size → s = 401) ∧ Below w.heap.size w W' :=
  callsIn_wide.1 (measure_in f v w hl hs)

def bndErr (f : Fo) : Int := if 400 < f.size then 4 else if 40 < f.deep then 8 else 0
set_option maxHeartbeats 1000000 in
theorem checkBounds_any (f : Fo) (v : Value) (w : World) (hl : Lies w v f) (hs : f.size ≤ 1000000) :
    Calls Tryz.prog 78 #[v] w fun e W' => e = .returned (.int .i64 (bndErr f)) ∧ Below w.heap.size w W' := by
  have M := Lib.hid (measure_any f v w hl hs)
  have HE := Lib.hid (show bndErr f = if 400 < f.size then 4 else if 40 < f.deep then 8 else 0 from rfl)
  obtain ⟨a, cap, rfl⟩ := lies_form hl
  clear hl
  go_enter Tryz.func78, Tryz.ntmps78
  go_wp2_with fail
  refine M.out.mono ?_; rintro e w1 ⟨s, d, rfl, h1, h2, hb1⟩
  by_cases h4 : 400 < f.size
  · obtain rfl := h2 h4
    clear h1 h2
    go_wp2_with fail
    go_ret
    exact ⟨ret_int' (by rw [HE.out, if_pos h4]), hb1⟩
  · obtain ⟨rfl, rfl⟩ := h1 (by omega)
    have d4 : decide ((400 : Int) < (f.size : Int)) = false := by simp; omega
    clear h1 h2
    by_cases h8 : 40 < f.deep
    · have d8 : decide ((40 : Int) < (f.deep : Int)) = true := by simp; omega
      go_wp2_with fail
      go_ret
      exact ⟨ret_int' (by rw [HE.out, if_neg h4, if_pos h8]), hb1⟩
    · have d8 : decide ((40 : Int) < (f.deep : Int)) = false := by simp; omega
      go_wp2_with fail
      go_ret
      exact ⟨ret_int' (by rw [HE.out, if_neg h4, if_neg h8]), hb1⟩

/-- the error of one tree. -/
def visErr (x : Vis) : Int := if headErr x.h ≠ 0 then headErr x.h else if x.h.k ≠ 0 ∧ x.ks.len ≠ 0 then 1 else 0
def firstV : List Vis → Int
  | [] => 0
  | x :: xs => if visErr x ≠ 0 then visErr x else firstV xs
theorem firstV_app : ∀ xs ys : List Vis, firstV (xs ++ ys) = if firstV xs ≠ 0 then firstV xs else firstV ys
  | [], ys => by simp [firstV]
  | x :: xs, ys => by
    simp only [List.cons_append, firstV, firstV_app xs ys]
    by_cases h : visErr x = 0 <;> simp [h]
theorem firstV_seq : ∀ (f : Fo) (pre : List Nat) (i : Nat), firstV (seqAt pre i f) = headsErr f
  | .nil, _, _ => rfl
  | .cons h ks r, pre, i => by
    have e : seqAt pre i (.cons h ks r) = ⟨pre ++ [i], h, ks⟩ :: (seqAt (pre ++ [i]) 0 ks ++ seqAt pre (i + 1) r) := rfl
    rw [e, firstV, firstV_app, firstV_seq ks, firstV_seq r, headsErr]
    unfold visErr
    by_cases h1 : headErr h = 0
    · by_cases h2 : h.k ≠ 0 ∧ ks.len ≠ 0
      · simp [h1, h2]
      · simp [h1, h2]
    · simp [h1]
theorem foFit_mem : ∀ {f : Fo} {pre : List Nat} {i : Nat} {x : Vis}, foFit f → x ∈ seqAt pre i f → HdFit x.h
  | .nil, _, _, _, _, h => by simp [seqAt] at h
  | .cons h ks r, pre, i, x, hf, hx => by
    simp only [seqAt, List.mem_cons, List.mem_append] at hx
    rcases hx with rfl | hx | hx
    · exact hf.1
    · exact foFit_mem hf.2.1 hx
    · exact foFit_mem hf.2.2 hx

theorem foErr_eq (f : Fo) : foErr f = if bndErr f ≠ 0 then bndErr f else headsErr f := by unfold foErr bndErr; split <;> simp; split <;> simp

set_option maxRecDepth 100000 in
set_option maxHeartbeats 1000000 in
theorem check_bnd (f : Fo) (v : Value) (w : World) (hl : Lies w v f) (hs : Small f) (hb : bndErr f ≠ 0) :
    Calls Tryz.prog 19 #[v] w fun e W' => e = .returned (.int .i64 (foErr f)) ∧ Below w.heap.size w W' := by
  have hsz := hs.size
  have B := Lib.hid (fun w1 (hw : Below w.heap.size w w1) => checkBounds_any f v w1 (lies_below hl hw) (by omega))
  have HE := Lib.hid ((foErr_eq f).trans (if_pos hb))
  obtain ⟨a, cap, rfl⟩ := lies_form hl
  generalize bndErr f = be at *
  have hb0 : (be != 0) = true := by simpa using hb
  clear hl hb
  go_enter Tryz.func19, Tryz.ntmps19
  go_wp2_with fail
  refine (B.out _ ((Below.refl _ _).alloc (Nat.le_refl _) _)).mono ?_; rintro e w1 ⟨rfl, hb1⟩; obtain ⟨hc1, hf1⟩ := bcell hb1; have hs1 := hb1.size; (try simp at hs1); (try have hz10 : w.heap.size < w1.heap.size := by omega); (try have hz11 : w.heap.size + 1 < w1.heap.size := by omega); (try have hz12 : w.heap.size + 1 + 1 < w1.heap.size := by omega); (try have hz13 : w.heap.size + 1 + 1 + 1 < w1.heap.size := by omega); (try have hz14 : w.heap.size + 1 + 1 + 1 + 1 < w1.heap.size := by omega); (try have hz15 : w.heap.size + 1 + 1 + 1 + 1 + 1 < w1.heap.size := by omega)
  go_wp2_with fail
  rw [HE.out]
  refine bodyPost_ret (v := .int .i64 be) (by simp (maxDischargeDepth := 8) [results, Tryz.results19, go_sem, *]) rfl ?_
  exact ⟨rfl, by ((repeat' (first | exact Below.refl _ _ | assumption | refine Below.setCell ?_ ?_ _ | refine bdrewN ?_ _ | refine Below.drew ?_ | refine Below.alloc ?_ ?_ _ | refine bbehind ?_ (by assumption) ?_)); all_goals first | (simp; done) | (simp; omega) | omega)⟩

/-- what the search for an error holds behind so many trees. -/
structure ChkI (w : World) (R : Nat) (pre : List Vis) (G : Nat → Prop) (W : World) : Prop where
  g : ∀ k, G k ↔ k < R
  c0 : W.cell? ⟨w.heap.size, 0, none⟩ = some (.int .i64 0)
  f0 : W.frozen? ⟨w.heap.size, 0, none⟩ = false
  ok : firstV pre = 0
  size : R ≤ W.heap.size
  bel : Below w.heap.size w W
structure ChkX (w : World) (R : Nat) (pre : List Vis) (W : World) : Prop where
  c0 : W.cell? ⟨w.heap.size, 0, none⟩ = some (.int .i64 (firstV pre))
  err : firstV pre ≠ 0
  size : R ≤ W.heap.size
  bel : Below w.heap.size w W

theorem ChkI.spared {w W W' : World} {R : Nat} {pre : List Vis} {G : Nat → Prop} (h : ChkI w R pre G W) (sp : Spared G W W') (hR : w.heap.size < R) : ChkI w R pre G W' := by
  obtain ⟨g, c0, f0, ok, size, bel⟩ := h
  have b0 := sp.block _ ((g w.heap.size).2 (by omega))
  exact ⟨g, (World.cell?_of_block (w := W) b0).trans c0, (World.frozen?_of_block (w := W) b0).trans f0, ok, Nat.le_trans size sp.size,
    bel.trans ⟨sp.os, sp.tape, sp.output, sp.size, fun k hk => sp.block k ((g k).2 (by omega))⟩⟩
theorem firstV_snoc {pre : List Vis} {x : Vis} (h : firstV pre = 0) : firstV (pre ++ [x]) = visErr x := by
  rw [firstV_app, if_neg (by simpa using h)]; simp [firstV]; exact fun h => h.symm

set_option maxRecDepth 100000 in
set_option maxHeartbeats 4000000 in
theorem check_in (f : Fo) (v : Value) (w : World) (hl : Lies w v f) (hs : Small f) (hb : bndErr f = 0) :
    CallsIn Fence.wide 4 Tryz.prog 19 #[v] w fun e W' => e = .returned (.int .i64 (foErr f)) ∧ Below w.heap.size w W' := by
  have hsz := hs.size
  have B := Lib.hid (fun w1 (hw : Below w.heap.size w w1) => checkBounds_any f v w1 (lies_below hl hw) (by omega))
  have HE := Lib.hid ((foErr_eq f).trans (if_neg (by simpa using hb)))
  rw [hb] at B
  clear hb
  obtain ⟨a, cap, rfl⟩ := lies_form hl
  refine callsIn_of_wp_marks Tryz.func19 rfl trivial ?_ rfl
  simp only [Tryz.ntmps19, List.size_toArray, List.length_cons, List.length_nil, Nat.reduceAdd, Nat.reduceSub, Array.replicate_succ, Array.replicate_zero, List.push_toArray, List.append_toArray, List.nil_append, List.cons_append]
  gi_wp2_with (first | (refine ⟨trivial, ?_⟩; gi_at_call 78; refine (callsIn_wide.2 (B.out _ ((Below.refl _ _).alloc (Nat.le_refl _) _))).mono ?_; rintro e w1 ⟨rfl, hb1⟩; obtain ⟨hc1, hf1⟩ := bcell hb1; have hs1 := hb1.size; (try simp at hs1); have hz10 : w.heap.size < w1.heap.size := by omega) | (refine ⟨trivial, ?_⟩; gi_at_call 79; refine (trees_in _ _ _ _ _).mono ?_; rintro e w' ⟨rfl, rfl⟩))
  obtain ⟨W0, hW0⟩ : ∃ W0, w1.alloc (.cells #[.slice a f.len cap] 28) = W0 := ⟨_, rfl⟩
  have hz0 : W0.heap.size = w1.heap.size + 1 := by rw [← hW0]; simp
  have hB0 : Below w.heap.size w W0 := by
    rw [← hW0]
    exact (((Below.refl _ w).alloc (Nat.le_refl _) _).trans (hb1.mono (by simp))).alloc (by omega) _
  have hN0 : ChkI w (w1.heap.size + 1) [] (fun k => k < w1.heap.size + 1) W0 := by
    have nz : ¬ w.heap.size = w1.heap.size := by omega
    refine ⟨fun _ => Iff.rfl, ?_, ?_, rfl, by omega, hB0⟩ <;> (rw [← hW0]; clear hW0 hB0 hz0; simp [go_sem, *])
  have hc0 : W0.cell? ⟨w1.heap.size, 0, none⟩ = some (.slice a f.len cap) := by rw [← hW0]; simp [go_sem]
  rw [hW0]
  refine range_own (gf := 123) (lb := #[.pointer (some ⟨w1.heap.size, 0, none⟩)]) rfl (enters_of Tryz.func123 (by kernel_rfl) rfl)
    (trees_seq f (.slice a f.len cap) w w1.heap.size hl (by omega)) (by omega) ?st (fun x args W h => by obtain ⟨_, _, rfl, _⟩ := h; rfl)
    (ChkI w (w1.heap.size + 1)) (fun c pre W => c = .ret ∧ ChkX w (w1.heap.size + 1) pre W) (fun k => k < w1.heap.size + 1) ?hI ?hIs ?hIx (fun k hk => by omega) hN0
    (fun x a' W => ∃ Bx pv tv aa ca ak ck, w1.heap.size + 1 ≤ Bx ∧ AttrsLie w (.slice aa x.h.ats.length ca) x.h.ats ∧ HdFit x.h ∧ W.heap[Bx]? = some (.cells #[.int .i64 x.h.k, .string ⟨x.h.l.toArray⟩, .slice aa x.h.ats.length ca, .int .i64 x.h.n, .int .i64 x.h.d, .string ⟨x.h.x.toArray⟩, .slice ak x.ks.len ck] 43 (0, 0)) ∧
      a' = { tmps := #[.slice a f.len cap, undef, .pointer (some ⟨w.heap.size, 0, none⟩), .int .i64 0, undef, .pointer (some ⟨Bx, 0, none⟩), undef, .slice a f.len cap, .int .i64 0, .int .i64 0, .bool false, undef, .slice a f.len cap, .func (.func 123) #[] #[.pointer (some ⟨w1.heap.size, 0, none⟩)], pv, tv, undef, undef, undef, undef, undef, undef, undef, undef, undef, undef, undef, undef, undef, undef, undef, undef], defers := [] })
    (fun x a' W l o o' hl ho h => by
      obtain ⟨Bx, pv, tv, aa, ca, ak, ck, h1, h2, h3, h4, h5⟩ := h
      exact ⟨Bx, pv, tv, aa, ca, ak, ck, h1, h2, h3, (World.putObj_heap_other (fun e => by rw [e, hl] at h4; cases h4; cases ho)).trans h4, h5⟩) ?assign ?body ?done ?stop
  case st =>
    intro o
    refine ⟨hB0.trans ((((Below.refl _ W0).alloc (Nat.le_refl _) _).alloc (by simp) _).mono hB0.size), ?_⟩
    simp [go_sem, hz0, hc0]
  case hI =>
    exact fun s G W W' h sp => h.spared sp (by omega)
  case hIs =>
    rintro s G W ⟨g, c0, f0, ok, size, bel⟩ k hk
    have := (g k).1 hk; omega
  case hIx =>
    rintro c s W l o o' hl ho hc ⟨rfl, c0, err, size, bel⟩
    have b0 : (W.putObj l o').heap[w.heap.size]? = W.heap[w.heap.size]? := World.putObj_heap_other (by omega)
    exact ⟨rfl, (World.cell?_of_block (w := W) b0).trans c0, err, by simpa using size,
      bel.trans ⟨rfl, rfl, rfl, by simp, fun k hk => World.putObj_heap_other (by omega)⟩⟩
  case assign =>
    rintro n' l pre x args G W K hI ⟨pv, tv, rfl, hp, ⟨va, kv, rfl, ha, hk⟩, hx⟩ hz hK
    obtain ⟨aa, ca, rfl⟩ := attrs_form ha
    obtain ⟨ak, ck, rfl⟩ := lies_form hk
    have HI := Lib.hid hI
    have HA := Lib.hid ha
    have HX := Lib.hid (foFit_mem hs.fit hx)
    clear hI ha hx hp hk
    gi_wp2
    have hal : Below W.heap.size W (W.alloc (.cells #[.int .i64 x.h.k, .string ⟨x.h.l.toArray⟩, .slice aa x.h.ats.length ca, .int .i64 x.h.n, .int .i64 x.h.d, .string ⟨x.h.x.toArray⟩, .slice ak x.ks.len ck] 43)) := (Below.refl _ W).alloc (Nat.le_refl _) _
    have hsW := HI.out.size
    exact hK _ _ (But.of_below hal) (hal.mono (by omega)) (HI.out.spared (Spared.alloc (fun k hk => by have := (HI.out.g k).1 hk; omega) _) (by omega)) ⟨W.heap.size, pv, _, aa, ca, ak, ck, by omega, HA.out, HX.out, World.alloc_heap_new _ _, rfl⟩
  case body =>
    rintro n' l pre x a' G W ⟨g, c0, f0, ok, size, bel⟩ ⟨Bx, pv, tv, aa, ca, ak, ck, hBx, ha, hf, hbx, rfl⟩ hz
    have hG0 : G w.heap.size := (g _).2 (by omega)
    have HG := Lib.hid g
    have hBz : Bx < W.heap.size := (Array.getElem?_eq_some_iff.1 hbx).1
    have t0 : W.cell? ⟨Bx, 0, none⟩ = _ := cell_of_block hbx rfl
    have t1 : W.cell? ⟨Bx, 1, none⟩ = _ := cell_of_block hbx rfl
    have t2 : W.cell? ⟨Bx, 2, none⟩ = _ := cell_of_block hbx rfl
    have t3 : W.cell? ⟨Bx, 3, none⟩ = _ := cell_of_block hbx rfl
    have t4 : W.cell? ⟨Bx, 4, none⟩ = _ := cell_of_block hbx rfl
    have t5 : W.cell? ⟨Bx, 5, none⟩ = _ := cell_of_block hbx rfl
    have t6 : W.cell? ⟨Bx, 6, none⟩ = _ := cell_of_block hbx rfl
    have GH := Lib.hid (thead_any x.h (.slice aa x.h.ats.length ca) W (attrs_below ha bel) hf)
    have HS := Lib.hid (firstV_snoc (x := x) ok)
    have HV := Lib.hid (show visErr x = if headErr x.h ≠ 0 then headErr x.h else if x.h.k ≠ 0 ∧ x.ks.len ≠ 0 then 1 else 0 from rfl)
    have z0 : w.heap.size < W.heap.size := by omega
    have ne0 : ¬ Bx = w.heap.size := by omega
    have ne1 : ¬ w.heap.size = Bx := by omega
    clear g hbx ha hf ok
    generalize headErr x.h = eh at *
    generalize hkk : x.h.k = kk at *
    generalize hkl : x.ks.len = nk at *
    clear hkk hkl
    by_cases h1 : eh = 0
    · have b1 : (eh != 0) = false := by simpa using h1
      by_cases h2 : kk ≠ 0 ∧ nk ≠ 0
      · have b2 : (kk != 0) = true := by simpa using h2.1
        have b3 : decide ((0 : Int) < (nk : Int)) = true := by simp; omega
        have b4 : decide (0 < nk) = true := by simp; omega
        have HX := Lib.hid (HS.out.trans (HV.out.trans (by rw [if_neg (by simpa using h1), if_pos h2])))
        clear h1 h2
        gi_wp2_with fail
        refine ⟨trivial, fun h => (by cases h), (CallsIn.inRound l (callsIn_wide.2 GH.out)).mono ?_⟩
        rintro e w2 ⟨rfl, hb2⟩
        obtain ⟨hc2, hf2⟩ := bcell hb2
        have hs2 := hb2.size
        have z2 : w.heap.size < w2.heap.size := by omega
        gi_wp2_with fail
        exact ⟨(But.of_below hb2).trans (But.setCell _ hG0 _), rfl, by rw [HX.out]; exact (by simp (maxDischargeDepth := 8) [go_sem, *]), by rw [HX.out]; decide, by simp; omega, by ((repeat' (first | exact Below.refl _ _ | assumption | refine Below.setCell ?_ ?_ _ | refine bdrewN ?_ _ | refine Below.drew ?_ | refine Below.alloc ?_ ?_ _ | refine bbehind ?_ (by assumption) ?_)); all_goals first | (simp; done) | (simp; omega) | omega)⟩
      · have HX := Lib.hid (HS.out.trans (HV.out.trans (by rw [if_neg (by simpa using h1), if_neg h2])))
        rcases (show (kk != 0) = false ∨ ((kk != 0) = true ∧ nk = 0) by
          by_cases hk0 : kk = 0
          · exact .inl (by simpa using hk0)
          · exact .inr ⟨by simpa using hk0, by omega⟩) with b2 | ⟨b2, rfl⟩
        all_goals
          clear h1 h2
          gi_wp2_with fail
          refine ⟨trivial, fun h => (by cases h), (CallsIn.inRound l (callsIn_wide.2 GH.out)).mono ?_⟩
          rintro e w2 ⟨rfl, hb2⟩
          obtain ⟨hc2, hf2⟩ := bcell hb2
          have hs2 := hb2.size
          have z2 : w.heap.size < w2.heap.size := by omega
          gi_wp2_with fail
          exact ⟨But.of_below hb2, hb2.mono (by omega), G, fun k hk => .inl hk, HG.out, (by simp (maxDischargeDepth := 8) [go_sem, *]), (by simp (maxDischargeDepth := 8) [go_sem, *]), HX.out, by omega, by ((repeat' (first | exact Below.refl _ _ | assumption | refine Below.setCell ?_ ?_ _ | refine bdrewN ?_ _ | refine Below.drew ?_ | refine Below.alloc ?_ ?_ _ | refine bbehind ?_ (by assumption) ?_)); all_goals first | (simp; done) | (simp; omega) | omega)⟩
    · have b1 : (eh != 0) = true := by simpa using h1
      have HX := Lib.hid (HS.out.trans (HV.out.trans (by rw [if_pos (by simpa using h1)])))
      have H1 := Lib.hid h1
      clear h1
      gi_wp2_with fail
      refine ⟨trivial, fun h => (by cases h), (CallsIn.inRound l (callsIn_wide.2 GH.out)).mono ?_⟩
      rintro e w2 ⟨rfl, hb2⟩
      obtain ⟨hc2, hf2⟩ := bcell hb2
      have hs2 := hb2.size
      have z2 : w.heap.size < w2.heap.size := by omega
      gi_wp2_with fail
      exact ⟨(But.of_below hb2).trans (But.setCell _ hG0 _), rfl, by rw [HX.out]; exact (by simp (maxDischargeDepth := 8) [go_sem, *]), by rw [HX.out]; exact H1.out, by simp; omega, by ((repeat' (first | exact Below.refl _ _ | assumption | refine Below.setCell ?_ ?_ _ | refine bdrewN ?_ _ | refine Below.drew ?_ | refine Below.alloc ?_ ?_ _ | refine bbehind ?_ (by assumption) ?_)); all_goals first | (simp; done) | (simp; omega) | omega)⟩
  case done =>
    rintro D ys G W hD rfl ⟨g, c0, f0, ok, size, bel⟩ hK
    rw [firstV_seq] at ok
    have HO := Lib.hid (HE.out.trans ok)
    gi_wp2
    have hK2 : (W.setCell ⟨w.heap.size, 0, none⟩ (.int .i64 0)).heap[D]? = some (.deferred (some [])) := (KeepsOthers.setCell W _ _).same D _ hK rfl
    refine ⟨by simp, .inl ⟨_, _, rfl, run_takeDeferred hK2, ?_⟩⟩
    have hb2 := belowK_b (w := W0) (Nat.le_refl _) _ D _ (.deferred none) (by simpa using hD) hK2 rfl rfl
    have v0 := hb2.cell (p := ⟨w.heap.size, 0, none⟩) (by show w.heap.size < _; omega)
    have hbx : Below w.heap.size w (W.setCell ⟨w.heap.size, 0, none⟩ (.int .i64 0)) := by ((repeat' (first | exact Below.refl _ _ | assumption | refine Below.setCell ?_ ?_ _ | refine bdrewN ?_ _ | refine Below.drew ?_ | refine Below.alloc ?_ ?_ _ | refine bbehind ?_ (by assumption) ?_)); all_goals first | (simp; done) | (simp; omega) | omega)
    have hbb := hbx.trans (hb2.mono (by omega))
    generalize (W.setCell ⟨w.heap.size, 0, none⟩ (.int .i64 0)).putObj D (.deferred none) = Wf at v0 hbb ⊢
    have u0 : Wf.cell? ⟨w.heap.size, 0, none⟩ = some (.int .i64 0) := by rw [v0]; exact (by simp (maxDischargeDepth := 8) [go_sem, *])
    exact ⟨.int .i64 0, by simp (maxDischargeDepth := 8) [results, go_sem, Tryz.results19, u0], by rw [HO.out], hbb⟩
  case stop =>
    rintro D c pre W hD hp ⟨rfl, c0, err, size, bel⟩ hK
    have HO := Lib.hid (show foErr f = firstV pre by
      obtain ⟨t, ht⟩ := hp
      rw [HE.out, ← firstV_seq f [] 0, ← ht, firstV_app, if_pos err])
    gi_wp2
    refine ⟨by simp, .inl ⟨_, _, rfl, run_takeDeferred hK, ?_⟩⟩
    have hb2 := belowK_b (w := W0) (Nat.le_refl _) _ D _ (.deferred none) (by simpa using hD) hK rfl rfl
    have v0 := hb2.cell (p := ⟨w.heap.size, 0, none⟩) (by show w.heap.size < _; omega)
    have hbb := bel.trans (hb2.mono (by omega))
    generalize W.putObj D (.deferred none) = Wf at v0 hbb ⊢
    have u0 : Wf.cell? ⟨w.heap.size, 0, none⟩ = some (.int .i64 (firstV pre)) := by rw [v0]; exact c0
    exact ⟨.int .i64 (firstV pre), by simp (maxDischargeDepth := 8) [results, go_sem, Tryz.results19, u0], by rw [HO.out], hbb⟩

theorem tcheck_any (f : Fo) (v : Value) (w : World) (hl : Lies w v f) (hs : Small f) :
    Calls Tryz.prog 19 #[v] w fun e W' => e = .returned (.int .i64 (foErr f)) ∧ Below w.heap.size w W' := by
  by_cases hb : bndErr f = 0
  · exact callsIn_wide.1 (check_in f v w hl hs hb)
  · exact check_bnd f v w hl hs hb

theorem fine_bounds {f : Fo} (h : foErr f = 0) : f.size ≤ 400 ∧ f.deep ≤ 40 ∧ headsErr f = 0 := by
  unfold foErr at h
  split at h
  · cases h
  · split at h
    · cases h
    · exact ⟨by omega, by omega, h⟩

/-- what Size and Deep give. -/
def sizeT (f : Fo) : Int × Int := if foErr f = 0 then (f.size, 0) else (0, foErr f)
def deepT (f : Fo) : Int × Int := if foErr f = 0 then (f.deep, 0) else (0, foErr f)

set_option maxHeartbeats 1000000 in
theorem tsize_any (f : Fo) (v : Value) (w : World) (hl : Lies w v f) (hs : Small f) :
    Calls Tryz.prog 21 #[v] w fun e W' => e = .returned (.tuple #[.int .i64 (sizeT f).1, .int .i64 (sizeT f).2]) ∧ Below w.heap.size w W' := by
  have hsz := hs.size
  have C := Lib.hid (tcheck_any f v w hl hs)
  have M := Lib.hid (fun w1 (hw : Below w.heap.size w w1) => measure_any f v w1 (lies_below hl hw) (by omega))
  obtain ⟨a, cap, rfl⟩ := lies_form hl
  clear hl
  by_cases h0 : foErr f = 0
  · have HS := Lib.hid (show sizeT f = ((f.size : Int), 0) from if_pos h0)
    have HB := Lib.hid (fine_bounds h0)
    rw [h0] at C
    clear h0
    rw [HS.out]
    go_enter Tryz.func21, Tryz.ntmps21
    go_wp2_with fail
    refine (C.out).mono ?_; rintro e w1 ⟨rfl, hb1⟩; obtain ⟨hc1, hf1⟩ := bcell hb1; have hs1 := hb1.size; (try simp at hs1); (try have hz10 : w.heap.size < w1.heap.size := by omega); (try have hz11 : w.heap.size + 1 < w1.heap.size := by omega); (try have hz12 : w.heap.size + 1 + 1 < w1.heap.size := by omega); (try have hz13 : w.heap.size + 1 + 1 + 1 < w1.heap.size := by omega); (try have hz14 : w.heap.size + 1 + 1 + 1 + 1 < w1.heap.size := by omega); (try have hz15 : w.heap.size + 1 + 1 + 1 + 1 + 1 < w1.heap.size := by omega)
    go_wp2_with fail
    refine (M.out _ hb1).mono ?_; rintro e w2 ⟨s, d, rfl, h1, h2, hb2⟩
    obtain ⟨rfl, rfl⟩ := h1 HB.out.1
    clear h1 h2
    go_wp2_with fail
    go_ret2
    exact ⟨rfl, by ((repeat' (first | exact Below.refl _ _ | assumption | refine Below.setCell ?_ ?_ _ | refine bdrewN ?_ _ | refine Below.drew ?_ | refine Below.alloc ?_ ?_ _ | refine bbehind ?_ (by assumption) ?_)); all_goals first | (simp; done) | (simp; omega) | omega)⟩
  · have HS := Lib.hid (show sizeT f = (0, foErr f) from if_neg h0)
    rw [HS.out]
    generalize foErr f = e0 at *
    have b0 : (e0 != 0) = true := by simpa using h0
    clear h0
    go_enter Tryz.func21, Tryz.ntmps21
    go_wp2_with fail
    refine (C.out).mono ?_; rintro e w1 ⟨rfl, hb1⟩; obtain ⟨hc1, hf1⟩ := bcell hb1; have hs1 := hb1.size; (try simp at hs1); (try have hz10 : w.heap.size < w1.heap.size := by omega); (try have hz11 : w.heap.size + 1 < w1.heap.size := by omega); (try have hz12 : w.heap.size + 1 + 1 < w1.heap.size := by omega); (try have hz13 : w.heap.size + 1 + 1 + 1 < w1.heap.size := by omega); (try have hz14 : w.heap.size + 1 + 1 + 1 + 1 < w1.heap.size := by omega); (try have hz15 : w.heap.size + 1 + 1 + 1 + 1 + 1 < w1.heap.size := by omega)
    go_wp2_with fail
    go_ret2
    exact ⟨rfl, by ((repeat' (first | exact Below.refl _ _ | assumption | refine Below.setCell ?_ ?_ _ | refine bdrewN ?_ _ | refine Below.drew ?_ | refine Below.alloc ?_ ?_ _ | refine bbehind ?_ (by assumption) ?_)); all_goals first | (simp; done) | (simp; omega) | omega)⟩
set_option maxHeartbeats 1000000 in
theorem tdeep_any (f : Fo) (v : Value) (w : World) (hl : Lies w v f) (hs : Small f) :
    Calls Tryz.prog 23 #[v] w fun e W' => e = .returned (.tuple #[.int .i64 (deepT f).1, .int .i64 (deepT f).2]) ∧ Below w.heap.size w W' := by
  have hsz := hs.size
  have C := Lib.hid (tcheck_any f v w hl hs)
  have M := Lib.hid (fun w1 (hw : Below w.heap.size w w1) => measure_any f v w1 (lies_below hl hw) (by omega))
  obtain ⟨a, cap, rfl⟩ := lies_form hl
  clear hl
  by_cases h0 : foErr f = 0
  · have HS := Lib.hid (show deepT f = ((f.deep : Int), 0) from if_pos h0)
    have HB := Lib.hid (fine_bounds h0)
    rw [h0] at C
    clear h0
    rw [HS.out]
    go_enter Tryz.func23, Tryz.ntmps23
    go_wp2_with fail
    refine (C.out).mono ?_; rintro e w1 ⟨rfl, hb1⟩; obtain ⟨hc1, hf1⟩ := bcell hb1; have hs1 := hb1.size; (try simp at hs1); (try have hz10 : w.heap.size < w1.heap.size := by omega); (try have hz11 : w.heap.size + 1 < w1.heap.size := by omega); (try have hz12 : w.heap.size + 1 + 1 < w1.heap.size := by omega); (try have hz13 : w.heap.size + 1 + 1 + 1 < w1.heap.size := by omega); (try have hz14 : w.heap.size + 1 + 1 + 1 + 1 < w1.heap.size := by omega); (try have hz15 : w.heap.size + 1 + 1 + 1 + 1 + 1 < w1.heap.size := by omega)
    go_wp2_with fail
    refine (M.out _ hb1).mono ?_; rintro e w2 ⟨s, d, rfl, h1, h2, hb2⟩
    obtain ⟨rfl, rfl⟩ := h1 HB.out.1
    clear h1 h2
    go_wp2_with fail
    go_ret2
    exact ⟨rfl, by ((repeat' (first | exact Below.refl _ _ | assumption | refine Below.setCell ?_ ?_ _ | refine bdrewN ?_ _ | refine Below.drew ?_ | refine Below.alloc ?_ ?_ _ | refine bbehind ?_ (by assumption) ?_)); all_goals first | (simp; done) | (simp; omega) | omega)⟩
  · have HS := Lib.hid (show deepT f = (0, foErr f) from if_neg h0)
    rw [HS.out]
    generalize foErr f = e0 at *
    have b0 : (e0 != 0) = true := by simpa using h0
    clear h0
    go_enter Tryz.func23, Tryz.ntmps23
    go_wp2_with fail
    refine (C.out).mono ?_; rintro e w1 ⟨rfl, hb1⟩; obtain ⟨hc1, hf1⟩ := bcell hb1; have hs1 := hb1.size; (try simp at hs1); (try have hz10 : w.heap.size < w1.heap.size := by omega); (try have hz11 : w.heap.size + 1 < w1.heap.size := by omega); (try have hz12 : w.heap.size + 1 + 1 < w1.heap.size := by omega); (try have hz13 : w.heap.size + 1 + 1 + 1 < w1.heap.size := by omega); (try have hz14 : w.heap.size + 1 + 1 + 1 + 1 < w1.heap.size := by omega); (try have hz15 : w.heap.size + 1 + 1 + 1 + 1 + 1 < w1.heap.size := by omega)
    go_wp2_with fail
    go_ret2
    exact ⟨rfl, by ((repeat' (first | exact Below.refl _ _ | assumption | refine Below.setCell ?_ ?_ _ | refine bdrewN ?_ _ | refine Below.drew ?_ | refine Below.alloc ?_ ?_ _ | refine bbehind ?_ (by assumption) ?_)); all_goals first | (simp; done) | (simp; omega) | omega)⟩
end Go.Proofs.YtefongoinlcgaaaGreat

/- package tree: the first of some errors; places. -/
namespace Go.Proofs.YtefongoinlcgaaaGreat
open Go.RowKit

def firstNZ : List Int → Int
  | [] => 0
  | e :: es => if e ≠ 0 then e else firstNZ es
theorem firstNZ_drop {l : List Int} {k : Nat} (hk : k < l.length) : firstNZ (l.drop k) = if l.getD k 0 ≠ 0 then l.getD k 0 else firstNZ (l.drop (k + 1)) := by
  rw [List.drop_eq_getElem_cons hk, firstNZ]
  have : l.getD k 0 = l[k] := by rw [List.getD_eq_getElem?_getD, List.getElem?_eq_getElem hk, Option.getD_some]
  rw [this]

set_option maxHeartbeats 1000000 in
theorem orErr_any (v : Value) (l : List Int) (w : World) (h : IntsLie w v l) (hl : l.length ≤ 1000000) :
    Calls Tryz.prog 129 #[v] w fun e w' => e = .returned (.int .i64 (firstNZ l)) ∧ w = w' := by
  obtain ⟨a, cap, rfl⟩ := ints_form h
  have H := Lib.hid h
  clear h
  go_enter Tryz.func129, Tryz.ntmps129
  go_wp2_with fail
  go_loop [8] (fun i => ∃ k : Nat, i = .int .i64 k ∧ k ≤ l.length ∧ firstNZ l = firstNZ (l.drop k)) (fun i => l.length - (intOf i).toNat)
  case atStart => exact ⟨0, rfl, Nat.zero_le _, rfl⟩
  case round =>
    obtain ⟨k, rfl, hk, he⟩ := hrel
    have HE := Lib.hid he
    clear he
    by_cases hlt : k < l.length
    · obtain ⟨b, off, cap', hs, hcap, hb, hc⟩ := ints_cells H.out (by intro e; subst e; simp at hlt)
      simp only [Value.slice.injEq] at hs
      obtain ⟨rfl, -, rfl⟩ := hs
      have c := hc k hlt
      have HS := Lib.hid (HE.out.trans (firstNZ_drop hlt))
      clear hc
      generalize l.getD k 0 = x at *
      by_cases hx : x = 0
      · have HX := Lib.hid (HS.out.trans (if_neg (by simpa using hx)))
        have b0 : (x != 0) = false := by simpa using hx
        clear hx
        go_wp2_with fail
        go_round
        case rel => exact ⟨k + 1, by go_num, by omega, HX.out⟩
        case measure => simp [intOf]; omega
      · have HX := Lib.hid (HS.out.trans (if_pos (by simpa using hx)))
        have b0 : (x != 0) = true := by simpa using hx
        clear hx
        go_wp2_with fail
        go_ret
        exact ⟨ret_int' HX.out.symm, rfl⟩
    · have HX := Lib.hid (show firstNZ l = 0 from HE.out.trans (by rw [List.drop_of_length_le (by omega)]; rfl))
      go_wp2_with fail
      go_ret
      exact ⟨ret_int' HX.out.symm, rfl⟩
theorem terr_any (v : Value) (l : List Int) (w : World) (h : IntsLie w v l) (hl : l.length ≤ 1000000) :
    Calls Tryz.prog 85 #[v] w fun e w' => e = .returned (.int .i64 (firstNZ l)) ∧ w = w' := by
  have O := Lib.hid (orErr_any v l w h hl)
  obtain ⟨a, cap, rfl⟩ := ints_form h
  clear h
  go_enter Tryz.func85, Tryz.ntmps85
  go_wp2_with fail
  refine O.out.mono ?_; rintro e w' ⟨rfl, rfl⟩
  go_wp2_with fail
  go_ret
  exact ⟨rfl, rfl⟩

/-- the tree at a path. -/
def placeF : Fo → List Int → Option (Hd × Fo)
  | _, [] => none
  | f, i :: p =>
    if i < 0 then none else match f.drop i.toNat with
      | .nil => none
      | .cons h ks _ => if p = [] then some (h, ks) else placeF ks p

end Go.Proofs.YtefongoinlcgaaaGreat
