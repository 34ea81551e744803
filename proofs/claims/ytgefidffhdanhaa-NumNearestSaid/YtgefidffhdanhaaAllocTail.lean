/- Regions whose order is drawn: a head of operations that are quiet, one allocation of a struct of two cells that may come up anywhere among them, a store of a value into it, then a tail in one forced order. The head is walked once, in the text's order, for every class of worlds on top of the first one; the tail behind it with whatever block the allocation took. -/
import Derived.Test.YtgefidffhdanhaaQuietTail
namespace Go.Proofs.Ytgefidffhdanhaa
open Go

section
variable {P : Program} {ops : Array Oper} {md : Region.Mode} {W : World}

/-- One value in every world on top of W; a call leaves what was there as it was. -/
def uponR (P : Program) (w : World) (v : Value) : Result Next → Prop
  | .ok (.value u) w' => w' = w ∧ u = v
  | .ok .skip w' => w' = w ∧ v = undef
  | .ok (.enter f args) w' => w' = w ∧ Calls P f args w (fun e w'' => e = .returned v ∧ Go.RowKit.Below w.heap.size w w'')
  | _ => False
def oneR (P : Program) (W : World) (o : Oper) (a : Act) (v : Value) : Prop := ∀ w, Go.RowKit.Below W.heap.size W w → uponR P w v ((execOp a.eval o).run P w)
def quietR (P : Program) (W : World) (ops : Array Oper) (Q : Act → Prop) : List Oper → Act → Prop
  | [], a => Q a
  | o :: rest, a => if Region.wanted o (yielded ops a.tmps) then ∃ v, oneR P W o a v ∧ quietR P W ops Q rest (a.put o.dst v) else quietR P W ops Q rest (a.put o.dst undef)

/-- Where the operations leave their values: apart, and within the frame. -/
def dstsB (n : Nat) : List Oper → Bool
  | [] => true
  | o :: rest => (match o.dst with | some d => decide (d < n) && rest.all (fun o' => o'.dst != some d) | none => false) && dstsB n rest

theorem put_size (a : Act) (d : Option Tmp) (v : Value) : (a.put d v).tmps.size = a.tmps.size := by cases d <;> simp [Act.put]
theorem put_at {a : Act} {d : Tmp} {v : Value} (h : d < a.tmps.size) : (a.put (some d) v).tmps[d]? = some v := by simp [Act.put, h]
theorem put_off {a : Act} {d : Tmp} {x : Option Tmp} {v : Value} (h : x ≠ some d) : (a.put x v).tmps[d]? = a.tmps[d]? := by
  cases x with
  | none => rfl
  | some e => simp only [Act.put]; exact Array.getElem?_setIfInBounds_ne fun k => h (by rw [k])

theorem quiet_keeps {C : World → Prop} {a1 : Act} {d : Tmp} : ∀ (l : List Oper) (a : Act), l.all (fun o' => o'.dst != some d) = true → wpQuiet P ops C (· = a1) l a → a1.tmps[d]? = a.tmps[d]?
  | [], a, _, h => by rw [show a = a1 from h]
  | o :: l, a, hd, h => by
    simp only [List.all_cons, Bool.and_eq_true, bne_iff_ne, ne_eq] at hd
    unfold wpQuiet at h
    split at h
    · obtain ⟨v, -, k⟩ := h
      rw [quiet_keeps l _ hd.2 k, put_off hd.1]
    · rw [quiet_keeps l _ hd.2 h, put_off hd.1]

theorem oneR_of {o : Oper} {a : Act} {v : Value} (h : ∀ W', Go.RowKit.Below W.heap.size W W' → o.quietAt P a (fun w' => ∃ x : Lower W', w' = x.val) W' v) : oneR P W o a v := by
  intro w hw
  have k := h w hw
  unfold Oper.quietAt at k
  generalize (execOp a.eval o).run P w = r at *
  cases r with
  | ok n w' =>
    cases n <;> simp only [Oper.quietUpon] at k <;> simp only [uponR]
    case value u => exact k
    case skip => exact k
    case enter f args => exact ⟨k.1, k.2.mono fun e w'' ⟨he, x, hx⟩ => ⟨he, hx ▸ x.prop⟩⟩
  | halt x w' => simp only [Oper.quietUpon] at k

theorem quietR_of {a1 : Act} : ∀ (l : List Oper) (a : Act), dstsB a.tmps.size l = true → (∀ W', Go.RowKit.Below W.heap.size W W' → wpQuiet P ops (fun w' => ∃ x : Lower W', w' = x.val) (· = a1) l a) → quietR P W ops (· = a1) l a
  | [], a, _, h => h W (Go.RowKit.Below.refl _ _)
  | o :: l, a, hd, h => by
    simp only [dstsB, Bool.and_eq_true] at hd
    obtain ⟨hd1, hd2⟩ := hd
    cases ho : o.dst with
    | none => rw [ho] at hd1; cases hd1
    | some d =>
      rw [ho] at hd1
      simp only [Bool.and_eq_true, decide_eq_true_eq] at hd1
      unfold quietR
      by_cases hw : Region.wanted o (yielded ops a.tmps) = true
      · rw [if_pos hw]
        have k : ∀ W', Go.RowKit.Below W.heap.size W W' → ∃ v, (∀ w, (∃ x : Lower W', w = x.val) → o.quietAt P a (fun w' => ∃ x : Lower W', w' = x.val) w v) ∧ wpQuiet P ops (fun w' => ∃ x : Lower W', w' = x.val) (· = a1) l (a.put o.dst v) := by
          intro W' hW'
          have := h W' hW'
          unfold wpQuiet at this
          rw [if_pos hw] at this
          exact this
        have one : ∀ W' v, wpQuiet P ops (fun w' => ∃ x : Lower W', w' = x.val) (· = a1) l (a.put o.dst v) → a1.tmps[d]? = some v := by
          intro W' v hv
          rw [quiet_keeps l _ hd1.2 hv, ho, put_at hd1.1]
        obtain ⟨v, hv1, hv2⟩ := k W (Go.RowKit.Below.refl _ _)
        have e := one _ _ hv2
        have same : ∀ W' v', wpQuiet P ops (fun w' => ∃ x : Lower W', w' = x.val) (· = a1) l (a.put o.dst v') → v' = v := by
          intro W' v' hv'
          have := one _ _ hv'
          rw [e] at this
          exact (Option.some.inj this).symm
        refine ⟨v, oneR_of fun W' hW' => ?_, quietR_of l _ (by rw [put_size]; exact hd2) fun W' hW' => ?_⟩
        · obtain ⟨v', h1, h2⟩ := k W' hW'
          have := same _ _ h2
          subst this
          exact h1 W' ⟨⟨W', Go.RowKit.Below.refl _ _⟩, rfl⟩
        · obtain ⟨v', h1, h2⟩ := k W' hW'
          have := same _ _ h2
          subst this
          exact h2
      · rw [if_neg hw]
        refine quietR_of l _ (by rw [put_size]; exact hd2) fun W' hW' => ?_
        have := h W' hW'
        unfold wpQuiet at this
        rw [if_neg hw] at this
        exact this

/-- Operation number i comes up: the allocation takes whatever block. -/
def opR (P : Program) (W : World) (ops : Array Oper) (m : Nat) (d s x : Nat) (val : Value) (i : Nat) (K : Act → Prop) (a : Act) : Prop :=
  if i = m then ∀ p : Nat, K (a.put (some d) (.pointer (some ⟨p, 0, none⟩)))
  else if i = s then a.tmps[x]? = some val ∧ K a else match ops[i]? with
    | none => K a
    | some o => if Region.wanted o (yielded ops a.tmps) then ∃ v, oneR P W o a v ∧ K (a.put o.dst v) else K (a.put o.dst undef)

theorem opR_mono {m i d s x : Nat} {val : Value} {a : Act} {K K' : Act → Prop} (h : ∀ a, K a → K' a) (hh : opR P W ops m d s x val i K a) : opR P W ops m d s x val i K' a := by
  unfold opR at *
  split
  · rename_i hi; rw [if_pos hi] at hh; exact fun p => h _ (hh p)
  · rename_i hi
    rw [if_neg hi] at hh
    by_cases his : i = s
    · rw [if_pos his] at hh ⊢
      exact ⟨hh.1, h _ hh.2⟩
    rw [if_neg his] at hh ⊢
    split
    · rename_i ho; simp only [ho] at hh; exact h _ hh
    · rename_i o ho
      simp only [ho] at hh
      split
      · rename_i hw; simp only [hw, if_true] at hh; obtain ⟨v, h1, h2⟩ := hh; exact ⟨v, h1, h _ h2⟩
      · rename_i hw; simp only [hw] at hh; exact h _ hh

def headR (P : Program) (W : World) (md : Region.Mode) (ops : Array Oper) (n m d s x : Nat) (val : Value) (L : Array Bool → Act → Prop) : Nat → Array Bool → Act → Prop
  | 0, ls, a => L ls a
  | f + 1, ls, a => Region.ready md ops ls ≠ [] ∧ ∀ i ∈ Region.ready md ops ls, i < n ∧ opR P W ops m d s x val i (headR P W md ops n m d s x val L f (ls.setIfInBounds i true)) a

/-- What is kept on the way: the worlds lie on top of W; the block that was taken is as it was made. -/
structure Kept (W : World) (m d s : Nat) (obj obj' : Obj) (sz : Nat) (ls : Array Bool) (a : Act) (w : World) : Prop where
  low : Go.RowKit.Below W.heap.size W w
  size : a.tmps.size = sz
  ord : ls.getD s false = true → ls.getD m false = true
  made : ls.getD m false = true → ∃ p, a.tmps[d]? = some (.pointer (some ⟨p, 0, none⟩)) ∧ W.heap.size ≤ p ∧ p < w.heap.size ∧ w.heap[p]? = some (if ls.getD s false = true then obj' else obj)

/-- What the store does. -/
structure Stores (P : Program) (os : Oper) (d x : Nat) (val : Value) (obj obj' : Obj) : Prop where
  guard : os.guard = none
  dst : os.dst = none
  run : ∀ (a : Act) (w : World) (p : Nat), a.tmps[d]? = some (.pointer (some ⟨p, 0, none⟩)) → a.tmps[x]? = some val → p < w.heap.size → w.heap[p]? = some obj →
    ∃ w', (execOp a.eval os).run P w = .ok .skip w' ∧ w'.os = w.os ∧ w'.tape = w.tape ∧ w'.output = w.output ∧ w'.heap.size = w.heap.size ∧ (∀ k, k ≠ p → w'.heap[k]? = w.heap[k]?) ∧ w'.heap[p]? = some obj'

theorem any_of_headR {n m g sz d s x : Nat} {val : Value} {obj obj' : Obj} {L : Array Bool → Act → Prop} {Q' : Exit → Act → World → Prop} {om os : Oper}
    (hL : ∀ ls a w, Kept W m d s obj obj' sz ls a w → L ls a → wpAny P md ops Q' g ls a w) (hm : ops[m]? = some om) (hmd : om.dst = some d) (hmg : om.guard = none) (hds : d < sz)
    (halloc : ∀ (a : Act) (w : World), (execOp a.eval om).run P w = .ok (.value (.pointer (some ⟨w.heap.size, 0, none⟩))) (w.alloc obj))
    (hos : ops[s]? = some os) (hst : Stores P os d x val obj obj') (hsm : Region.waitsFor md ops s m = true) (hms : m ≠ s)
    (hoff : ∀ i o, i < n → i ≠ m → ops[i]? = some o → o.dst ≠ some d) :
    ∀ (f : Nat) (ls : Array Bool) (a : Act) (w : World), Kept W m d s obj obj' sz ls a w → m < ls.size → headR P W md ops n m d s x val L f ls a → wpAny P md ops Q' (f + g) ls a w
  | 0, ls, a, w, hw, _, h => by rw [Nat.zero_add]; exact hL _ _ _ hw h
  | f + 1, ls, a, w, hw, hml, h => by
    rw [Nat.add_right_comm]
    refine ⟨fun h0 => absurd h0 h.1, fun i hi => ?_⟩
    obtain ⟨hin, hop⟩ := h.2 i hi
    have hun := (mem_ready.1 hi).1
    unfold opR at hop
    unfold wpOp
    by_cases him : i = m
    · rw [if_pos him] at hop
      subst him
      simp only [hm]
      have hwant : Region.wanted om (yielded ops a.tmps) = true := by unfold Region.wanted; rw [hmg]
      rw [if_pos hwant]
      refine .inl ?_
      unfold Oper.wp
      rw [halloc]
      simp only [Oper.upon]
      rw [hmd]
      have hns : ls.getD s false = false := by
        cases hl : ls.getD s false with
        | false => rfl
        | true => have := hw.ord hl; rw [getD_both hun] at this; cases this
      refine any_of_headR hL hm hmd hmg hds halloc hos hst hsm hms hoff f _ _ _ ⟨hw.low.alloc hw.low.size _, by rw [put_size]; exact hw.size, fun hl => ?_, fun _ => ⟨w.heap.size, put_at (by rw [hw.size]; exact hds), hw.low.size, by show w.heap.size < (w.heap.push obj).size; simp, ?_⟩⟩ (by simpa using hml) (hop _)
      · rw [getD_set_ne false hms, hns] at hl; cases hl
      · rw [getD_set_ne false hms, hns]; show (w.heap.push obj)[w.heap.size]? = some obj; simp
    · rw [if_neg him] at hop
      by_cases his : i = s
      · rw [if_pos his] at hop
        subst his
        obtain ⟨o, ho, e, he, hb, hon⟩ := Region.waitsFor_spec hsm
        obtain ⟨_, o', ho', hall⟩ := mem_ready.1 hi
        have : o = o' := Option.some.inj (ho.symm.trans ho')
        subst this
        have hlm := hall e he hb
        rw [hon] at hlm
        obtain ⟨p, h1, h2, h3, h4⟩ := hw.made hlm
        rw [getD_both hun] at h4
        obtain ⟨w', hr, k1, k2, k3, k4, k5, k6⟩ := hst.run a w p h1 hop.1 h3 h4
        simp only [hos]
        have hwant : Region.wanted os (yielded ops a.tmps) = true := by unfold Region.wanted; rw [hst.guard]
        rw [if_pos hwant]
        refine .inl ?_
        unfold Oper.wp
        rw [hr]
        simp only [Oper.upon]
        rw [hst.dst]
        refine any_of_headR hL hm hmd hmg hds halloc hos hst hsm hms hoff f _ _ _ ⟨⟨k1.trans hw.low.os, k2.trans hw.low.tape, k3.trans hw.low.output, by rw [k4]; exact hw.low.size, fun k hk => by rw [k5 k (by omega)]; exact hw.low.block k hk⟩, hw.size, fun _ => getD_set_true hlm, fun _ => ⟨p, h1, h2, by rw [k4]; exact h3, ?_⟩⟩ (by simpa using hml) hop.2
        have hisz : i < ls.size := (Nat.lt_or_ge i ls.size).elim (fun h => h) fun h => by simp [Array.getElem?_eq_none h] at hun
        rw [k6]; simp [hisz]
      · rw [if_neg his] at hop
        have next : ∀ (o : Oper) (v : Value) (w' : World), ops[i]? = some o → Go.RowKit.Below w.heap.size w w' → Kept W m d s obj obj' sz (ls.setIfInBounds i true) (a.put o.dst v) w' := by
          intro o v w' ho hb
          refine ⟨hw.low.trans (hb.mono hw.low.size), by rw [put_size]; exact hw.size, fun hl => ?_, fun hl => ?_⟩
          · rw [getD_set_ne false his] at hl; rw [getD_set_ne false him]; exact hw.ord hl
          rw [getD_set_ne false him] at hl
          obtain ⟨p, h1, h2, h3, h4⟩ := hw.made hl
          exact ⟨p, by rw [put_off (hoff i o hin him ho)]; exact h1, h2, Nat.lt_of_lt_of_le h3 hb.size, by rw [hb.block p h3, getD_set_ne false his]; exact h4⟩
        split
        · rename_i ho
          obtain ⟨_, o, ho', _⟩ := mem_ready.1 hi
          rw [ho] at ho'
          cases ho'
        · rename_i o ho
          simp only [ho] at hop
          split
          · rename_i hwant
            simp only [hwant, if_true] at hop
            obtain ⟨v, h1, h2⟩ := hop
            refine .inl ?_
            have h3 := h1 w hw.low
            unfold Oper.wp
            generalize (execOp a.eval o).run P w = r at *
            cases r with
            | ok nx w' =>
              cases nx <;> simp only [uponR] at h3 <;> simp only [Oper.upon]
              case value u =>
                obtain ⟨e1, e2⟩ := h3
                subst e1 e2
                exact any_of_headR hL hm hmd hmg hds halloc hos hst hsm hms hoff f _ _ _ (next o _ _ ho (Go.RowKit.Below.refl _ _)) (by simpa using hml) h2
              case skip =>
                obtain ⟨e1, e2⟩ := h3
                subst e1 e2
                exact any_of_headR hL hm hmd hmg hds halloc hos hst hsm hms hoff f _ _ _ (next o _ _ ho (Go.RowKit.Below.refl _ _)) (by simpa using hml) h2
              case enter fn args =>
                obtain ⟨e1, hc⟩ := h3
                subst e1
                exact hc.mono fun e w'' ⟨he, hb⟩ => by
                  subst he
                  exact any_of_headR hL hm hmd hmg hds halloc hos hst hsm hms hoff f _ _ _ (next o _ _ ho hb) (by simpa using hml) h2
            | halt x w' => simp only [uponR] at h3
          · rename_i hwant
            simp only [hwant] at hop
            exact any_of_headR hL hm hmd hmg hds halloc hos hst hsm hms hoff f _ _ _ (next o _ _ ho (Go.RowKit.Below.refl _ _)) (by simpa using hml) hop

/-- In state a the operation leaves v in its temporary. -/
def YieldR (P : Program) (W : World) (ops : Array Oper) (o : Oper) (v : Value) (a : Act) : Prop :=
  (Region.wanted o (yielded ops a.tmps) = true ∧ oneR P W o a v) ∨ (Region.wanted o (yielded ops a.tmps) = false ∧ v = undef)

theorem YieldR.op {m i d s x : Nat} {val : Value} {o : Oper} {v : Value} {a : Act} {K : Act → Prop} (him : i ≠ m) (his : i ≠ s) (hi : ops[i]? = some o) (hy : YieldR P W ops o v a) (h : K (a.put o.dst v)) : opR P W ops m d s x val i K a := by
  unfold opR
  rw [if_neg him, if_neg his]
  simp only [hi]
  rcases hy with ⟨hw, hv⟩ | ⟨hw, rfl⟩
  · simp only [hw, if_true]; exact ⟨v, hv, h⟩
  · simp only [hw, Bool.false_eq_true, if_false]; exact h

theorem YieldR.put {o : Oper} {v u : Value} {a : Act} {x : Option Tmp} (hs : ∀ cs b, o.op ≠ .select cs b) (h : ∀ d, x = some d → d ∉ o.looksAt ops) (hy : YieldR P W ops o v a) : YieldR P W ops o v (a.put x u) := by
  unfold YieldR oneR at *
  rw [execOp_put o hs a x u h, wanted_put o a x u h]
  exact hy

/-- Whether the first operation's value is in its temporary makes no difference to another one that is apart from it. -/
theorem opR_put {m j d s x : Nat} {val : Value} {oi oj : Oper} {v : Value} (hj : ops[j]? = some oj) (hmd : ∀ om, ops[m]? = some om → om.dst = some d) (hsx : ∀ os, ops[s]? = some os → x ∈ os.looksAt ops) (hap : oi.apart ops oj = true)
    (hsi : ∀ cs b, oi.op ≠ .select cs b) (hsj : ∀ cs b, oj.op ≠ .select cs b) {K : Act → Prop} {a : Act}
    (hy : YieldR P W ops oi v a) (h : opR P W ops m d s x val j K (a.put oi.dst v)) : opR P W ops m d s x val j (fun a' => YieldR P W ops oi v a' ∧ K (a'.put oi.dst v)) a := by
  obtain ⟨h1, h2, h3⟩ := Oper.apart_spec hap
  unfold opR at *
  split
  · rename_i hjm
    rw [if_pos hjm] at h
    subst hjm
    have hd := hmd oj hj
    intro p
    rw [← hd]
    refine ⟨hy.put hsi h3, ?_⟩
    rw [← Act.put_comm a v _ h2, hd]
    exact h p
  · rename_i hjm
    rw [if_neg hjm] at h
    by_cases hjs : j = s
    · rw [if_pos hjs] at h ⊢
      subst hjs
      have hx := hsx oj hj
      exact ⟨by rw [← h.1, put_off (fun e => h1 x e hx)], hy, h.2⟩
    rw [if_neg hjs] at h ⊢
    simp only [hj] at *
    rw [wanted_put oj a oi.dst v h1] at h
    split
    · rename_i hw
      simp only [hw, if_true] at h
      obtain ⟨u, hu, hn⟩ := h
      refine ⟨u, ?_, hy.put hsi h3, by rw [← Act.put_comm a v u h2]; exact hn⟩
      unfold oneR at *
      rw [execOp_put oj hsj a oi.dst v h1] at hu
      exact hu
    · rename_i hw
      simp only [hw] at h
      exact ⟨hy.put hsi h3, by rw [← Act.put_comm a v undef h2]; exact h⟩

theorem headR_take {n m i d s x : Nat} {val : Value} {oi : Oper} {v : Value} {L : Array Bool → Act → Prop} (him : i ≠ m) (his : i ≠ s) (hi : ops[i]? = some oi) (hsel : ∀ (j : Nat) (o : Oper) cs b, ops[j]? = some o → o.op ≠ .select cs b)
    (hmd : ∀ om, ops[m]? = some om → om.dst = some d) (hsx : ∀ os, ops[s]? = some os → x ∈ os.looksAt ops) (hs : Region.sinkB md ops n = true) (hc : Region.chainB md ops n = true) (hn : n < ops.size) (hin : i < n)
    (hdone : ∀ ls a, L ls a → ∀ j ∈ Region.ready md ops ls, n ≤ j) :
    ∀ (f : Nat) (ls : Array Bool) (a : Act), HeadInv md ops n ls →
      (∀ j oj, ops[j]? = some oj → j ≠ i → ls.getD j true = false → (∀ e ∈ oj.after, Region.binds md e = true → e.on ≠ i) → oi.apart ops oj = true) →
      i ∈ Region.ready md ops ls → YieldR P W ops oi v a →
      headR P W md ops n m d s x val L f (ls.setIfInBounds i true) (a.put oi.dst v) → headR P W md ops n m d s x val L (f + 1) ls a := by
  intro f
  induction f with
  | zero =>
    intro ls a inv _ hr hy H
    have hun := (mem_ready.1 hr).1
    refine ⟨fun h => absurd hr (by simp [h]), fun j hj => ?_⟩
    have hjn : j < n := (Nat.lt_or_ge j n).elim id fun h => absurd hj (tail_waits hs hc hn inv _ i rfl hin hun j h)
    by_cases hji : j = i
    · subst hji; exact ⟨hjn, hy.op him his hi H⟩
    · exact absurd (hdone _ _ H j (ready_mono hj hji)) (by omega)
  | succ f ih =>
    intro ls a inv hfree hr hy H
    have hun := (mem_ready.1 hr).1
    refine ⟨fun h => absurd hr (by simp [h]), fun j hj => ?_⟩
    have hjn : j < n := (Nat.lt_or_ge j n).elim id fun h => absurd hj (tail_waits hs hc hn inv _ i rfl hin hun j h)
    by_cases hji : j = i
    · subst hji; exact ⟨hjn, hy.op him his hi H⟩
    · obtain ⟨hjun, oj, hoj, hall⟩ := mem_ready.1 hj
      have hnot : ∀ e ∈ oj.after, Region.binds md e = true → e.on ≠ i := fun e he hb hq => by
        have h3 := hall e he hb
        rw [hq, getD_both hun] at h3
        cases h3
      have h2 := opR_put hoj hmd hsx (hfree j oj hoj hji hjun hnot) (fun cs b => hsel i oi cs b hi) (fun cs b => hsel j oj cs b hoj) hy (H.2 j (ready_mono hj hji)).2
      refine ⟨hjn, opR_mono (fun a' h3 => ih (ls.setIfInBounds j true) a' (inv.set hj hjn) (fun k ok hk hki hu hno => hfree k ok hk hki ?_ hno) (ready_mono hr (Ne.symm hji)) h3.1 ?_) h2⟩
      · by_cases hjk : j = k
        · subst hjk; exact hjun
        · rwa [getD_set_ne true hjk] at hu
      · rw [Array.setIfInBounds_comm _ _ hji]; exact h3.2

theorem headR_lex {n m g d s x : Nat} {val : Value} {Lq : Act → Prop} {L : Array Bool → Act → Prop} (hsel : Region.noSelect ops = true) (hmd : ∀ om, ops[m]? = some om → om.dst = some d) (hsx : ∀ os, ops[s]? = some os → x ∈ os.looksAt ops)
    (hs : Region.sinkB md ops n = true) (hc : Region.chainB md ops n = true) (hn : n < ops.size) (hsm : s = m + 1) (hmn : m + 2 = n)
    (hdone : ∀ ls a, L ls a → ∀ j ∈ Region.ready md ops ls, n ≤ j)
    (hone : ∀ ls a, Region.lexHead md ops g 2 m ls = true → HeadInv md ops n ls → Lq a → headR P W md ops n m d s x val L 2 ls a) :
    ∀ (l : List Oper) (k : Nat) (ls : Array Bool) (a : Act), (∀ j, j < l.length → l[j]? = ops[k + j]?) → k + l.length = m → HeadInv md ops n ls →
    Region.lexHead md ops g (l.length + 2) k ls = true → quietR P W ops Lq l a →
    headR P W md ops n m d s x val L (l.length + 2) ls a
  | [], k, ls, a, _, hk, inv, hB, h => by
    obtain rfl : k = m := by simpa using hk
    exact hone ls a hB inv h
  | o :: l, k, ls, a, hl, hk, inv, hB, h => by
    have h0 : ops[k]? = some o := by simpa using (hl 0 (by simp)).symm
    rw [List.length_cons, show l.length + 1 + 2 = l.length + 2 + 1 by omega] at hB ⊢
    rw [Region.lexHead] at hB
    simp only [Bool.and_eq_true] at hB
    obtain ⟨⟨hr, hf⟩, hB'⟩ := hB
    simp only [List.length_cons] at hk
    have hkn : k < n := by omega
    have hr' : k ∈ Region.ready md ops ls := by simpa using hr
    have next : ∀ v, quietR P W ops Lq l (a.put o.dst v) → headR P W md ops n m d s x val L (l.length + 2) (ls.setIfInBounds k true) (a.put o.dst v) :=
      fun v hv => headR_lex hsel hmd hsx hs hc hn hsm hmn hdone hone l (k + 1) _ _ (fun j hj => by have := hl (j + 1) (by simp; omega); simpa [Nat.add_assoc, Nat.add_comm 1 j] using this) (by omega) (inv.set hr' hkn) hB' hv
    unfold quietR at h
    split at h
    · rename_i hw
      obtain ⟨v, h1, h2⟩ := h
      exact headR_take (by omega) (by omega) h0 (Region.noSelect_spec hsel) hmd hsx hs hc hn hkn hdone (l.length + 2) ls a inv (Region.free_spec h0 hf) hr' (.inl ⟨hw, h1⟩) (next v h2)
    · rename_i hw
      exact headR_take (by omega) (by omega) h0 (Region.noSelect_spec hsel) hmd hsx hs hc hn hkn hdone (l.length + 2) ls a inv (Region.free_spec h0 hf) hr' (.inr ⟨by simpa using hw, rfl⟩) (next undef h)

/-- the allocation, the store: which, where. -/
def allocB (l : List Oper) (m d x : Nat) : Bool :=
  (match l[m]? with | some o => (o.dst == some d) && o.guard.isNone | none => false) && ((List.range (m + 2)).all fun i => decide (i = m) || match l[i]? with | some o => o.dst != some d | none => true) &&
  Region.waitsFor .any l.toArray (m + 1) m && (match l[m + 1]? with | some o => (o.looksAt l.toArray).contains x | none => false) && (x != d)

theorem wp_region_alloc {id : Nat} {Q : Exit → Act → World → Prop} {a : Act} {w : World} {l : List Oper} (m d x : Nat) (val : Value) (obj obj' : Obj) (om os : Oper) (hm : P.follows .mixedOrders = true) (hB : Region.lexTailB .any l.toArray (m + 2) = true)
    (hA : allocB l m d x = true) (hD : dstsB a.tmps.size (l.take m) = true) (hds : d < a.tmps.size) (hom : l[m]? = some om) (hos : l[m + 1]? = some os)
    (halloc : ∀ (a : Act) (w : World), (execOp a.eval om).run P w = .ok (.value (.pointer (some ⟨w.heap.size, 0, none⟩))) (w.alloc obj))
    (hst : Stores P os d x val obj obj')
    (h : ∃ a1, (∀ W', Go.RowKit.Below w.heap.size w W' → wpQuiet P l.toArray (fun w' => ∃ x : Lower W', w' = x.val) (· = a1) (l.take m) a) ∧ a1.tmps[x]? = some val ∧
      ∀ p w', Go.RowKit.Below w.heap.size w w' → w.heap.size ≤ p → p < w'.heap.size → w'.heap[p]? = some obj' → wpList P l.toArray Q (l.drop (m + 2)) (a1.put (some d) (.pointer (some ⟨p, 0, none⟩))) w') :
    (Code.region id l.toArray true).wp P Q a w := by
  obtain ⟨a1, h, hval, hK⟩ := h
  simp only [Region.lexTailB, Bool.and_eq_true, decide_eq_true_eq] at hB
  obtain ⟨⟨⟨⟨hsel, hn⟩, hs⟩, hc⟩, hlex⟩ := hB
  have hn' : m + 2 < l.length := by simpa using hn
  have htl : (l.take m).length = m := by simp; omega
  have hdl : (l.drop (m + 2)).length = l.toArray.size - (m + 2) := by simp
  have hom' : l.toArray[m]? = some om := by simpa using hom
  have hos' : l.toArray[m + 1]? = some os := by simpa using hos
  unfold allocB at hA
  rw [hom, hos] at hA
  simp only [Bool.and_eq_true, beq_iff_eq, Option.isNone_iff_eq_none, List.all_eq_true, List.mem_range, Bool.or_eq_true, decide_eq_true_eq, bne_iff_ne, ne_eq] at hA
  obtain ⟨⟨⟨⟨⟨hmd, hmg⟩, hoff⟩, hwait⟩, hlook⟩, hxd⟩ := hA
  have hmd' : ∀ o, l.toArray[m]? = some o → o.dst = some d := fun o ho => by rw [hom'] at ho; cases ho; exact hmd
  have hsx' : ∀ o, l.toArray[m + 1]? = some o → x ∈ o.looksAt l.toArray := fun o ho => by rw [hos'] at ho; cases ho; simpa using hlook
  have inv0 : HeadInv .any l.toArray (m + 2) (Array.replicate l.toArray.size false) :=
    ⟨by simp, fun j oj _ hl => (by rw [getD_replicate_false] at hl; cases hl), fun t _ ht => getD_in (by simpa using ht) (getD_replicate_false _ _)⟩
  have hq := quietR_of (W := w) (l.take m) a hD h
  have hsz : a1.tmps.size = a.tmps.size := by
    have keep : ∀ (l' : List Oper) (b : Act), quietR P w l.toArray (· = a1) l' b → a1.tmps.size = b.tmps.size := by
      intro l'
      induction l' with
      | nil => intro b hb; rw [show b = a1 from hb]
      | cons o l' ih =>
        intro b hb
        unfold quietR at hb
        split at hb
        · obtain ⟨v, _, hb⟩ := hb; rw [ih _ hb, put_size]
        · rw [ih _ hb, put_size]
    exact keep _ _ hq
  have H := headR_lex (P := P) (W := w) (md := .any) (g := l.toArray.size - (m + 2)) (d := d) (s := m + 1) (x := x) (val := val) (Lq := (· = a1))
    (L := fun ls' a' => Region.seqB .any l.toArray (l.toArray.size - (m + 2)) (m + 2) ls' = true ∧ ls'.getD m false = true ∧ ls'.getD (m + 1) false = true ∧ ∃ p, a' = a1.put (some d) (.pointer (some ⟨p, 0, none⟩)))
    hsel hmd' hsx' hs hc hn rfl rfl (fun ls b hL => seqB_ready hL.1) (fun ls b hB1 inv hb => by
      have hb : b = a1 := hb
      subst hb
      simp only [Region.lexHead, Bool.and_eq_true] at hB1
      obtain ⟨⟨hr, hf⟩, ⟨⟨hr2, hf2⟩, hB'⟩⟩ := hB1
      have hr' : m ∈ Region.ready .any l.toArray ls := by simpa using hr
      have hr2' : (m + 1) ∈ Region.ready .any l.toArray (ls.setIfInBounds m true) := by simpa using hr2
      have hun := (mem_ready.1 hr').1
      have hun2 := (mem_ready.1 hr2').1
      refine ⟨fun h0 => absurd hr' (by simp [h0]), fun j hj => ?_⟩
      have hjn : j < m + 2 := (Nat.lt_or_ge j (m + 2)).elim (fun h => h) fun h => absurd hj (tail_waits hs hc hn inv _ m rfl (by omega) hun j h)
      by_cases hjm : j = m
      · subst hjm
        refine ⟨by omega, ?_⟩
        unfold opR
        rw [if_pos rfl]
        intro p
        refine ⟨fun h0 => absurd hr2' (by simp [h0]), fun k hk => ?_⟩
        have hkn : k < j + 2 := (Nat.lt_or_ge k (j + 2)).elim (fun h => h) fun h => absurd hk (tail_waits hs hc hn (inv.set hr' (by omega)) _ (j + 1) rfl (by omega) hun2 k h)
        by_cases hks : k = j + 1
        · subst hks
          refine ⟨by omega, ?_⟩
          unfold opR
          rw [if_neg (by omega), if_pos rfl]
          have hj1 : j < ls.size := by rw [inv.size]; omega
          have hj2 : j + 1 < ls.size := by rw [inv.size]; omega
          refine ⟨by rw [put_off (fun e => hxd (Option.some.inj e).symm)]; exact hval, hB', ?_, ?_, p, rfl⟩
          · rw [getD_set_ne false (by omega)]; simp [hj1]
          · simp [hj2]
        · exact absurd (seqB_ready hB' k (ready_mono hk hks)) (by omega)
      · have h1 : j ∈ Region.ready .any l.toArray (ls.setIfInBounds m true) := ready_mono hj hjm
        by_cases hjs : j = m + 1
        · subst hjs
          obtain ⟨o, ho, e, he, hbb, hon⟩ := Region.waitsFor_spec hwait
          obtain ⟨_, o', ho', hall⟩ := mem_ready.1 hj
          have : o = o' := Option.some.inj (ho.symm.trans ho')
          subst this
          have := hall e he hbb
          rw [hon, getD_both hun] at this
          cases this
        · exact absurd (seqB_ready hB' j (ready_mono h1 hjs)) (by omega)) (l.take m) 0 _ a (fun j hj => by
    have hj' : j < m := by rw [htl] at hj; exact hj
    simp [hj']) (by simpa using htl) inv0 (by rw [htl]; exact hlex) hq
  rw [htl] at H
  refine wp_region_any hm ?_
  have := any_of_headR (Q' := Q) (g := l.toArray.size - (m + 2)) (sz := a.tmps.size) (obj := obj) (obj' := obj') (fun ls b w' hw hL => by
    obtain ⟨hL1, hl, hl2, p, hb⟩ := hL
    subst hb
    obtain ⟨p', e1, e2, e3, e4⟩ := hw.made hl
    rw [put_at (by rw [hsz]; exact hds)] at e1
    have ep : p = p' := by injection e1 with e1; injection e1 with e1; injection e1 with e1; injection e1
    subst ep
    rw [hl2] at e4
    have := wpAny_of_seq (md := .any) (Q' := Q) (l.drop (m + 2)) (m + 2) ls _ w' (fun j => by simp [List.getElem?_drop]) (by rw [hdl]; exact hL1) (hK p w' hw.low e2 e3 e4)
    rwa [hdl] at this) hom' hmd hmg hds halloc hos' hst hwait (by omega) (fun i o hi him ho => by
      have := hoff i hi
      rcases this with h1 | h1
      · exact absurd h1 him
      · have ho' : l[i]? = some o := by simpa using ho
        rw [ho'] at h1
        simpa using h1) (m + 2) (Array.replicate l.toArray.size false) a { w with drawn := w.drawn + 1 } ⟨(Go.RowKit.Below.refl _ _).drew, rfl, fun hl => (by rw [getD_replicate_false] at hl; cases hl), fun hl => (by rw [getD_replicate_false] at hl; cases hl)⟩ (by simp; omega) H
  rw [show m + 2 + (l.toArray.size - (m + 2)) = l.toArray.size by omega] at this
  exact this

theorem cell_of_block {w : World} {p o : Nat} {c : Array Value} {T : TypeId} {v : Value} (h : w.heap[p]? = some (.cells c T)) (hv : c[o]? = some v) : w.cell? ⟨p, o, none⟩ = some v := by
  unfold World.cell?; simp only [h]; exact hv
theorem frozen_of_block {w : World} {p o : Nat} {c : Array Value} {T : TypeId} (h : w.heap[p]? = some (.cells c T)) : w.frozen? ⟨p, o, none⟩ = false := by
  unfold World.frozen?; simp [h]

theorem set_block {w : World} {p o : Nat} {c : Array Value} {T : TypeId} {v : Value} (h : w.heap[p]? = some (.cells c T)) : (w.setCell ⟨p, o, none⟩ v).heap[p]? = some (.cells (c.setIfInBounds o v) T) := by
  unfold World.setCell; simp [Array.getElem?_modify, h]
theorem set_far {w : World} {p o k : Nat} {v : Value} (h : k ≠ p) : (w.setCell ⟨p, o, none⟩ v).heap[k]? = w.heap[k]? := by
  unfold World.setCell; simp [Array.getElem?_modify, Ne.symm h]
theorem set_size' {w : World} {a : Addr} {v : Value} : (w.setCell a v).heap.size = w.heap.size := by unfold World.setCell; simp

/-- the store of a struct of two cells. -/
theorem stores_two {os : Oper} {d x : Nat} {T : TypeId} {z0 z1 v0 v1 : Value} (hg : os.guard = none) (hd : os.dst = none)
    (hr : ∀ (a : Act) (w : World) (p : Nat), a.tmps[d]? = some (.pointer (some ⟨p, 0, none⟩)) → a.tmps[x]? = some (.agg #[v0, v1]) → w.cell? ⟨p, 0, none⟩ = some z0 → w.cell? ⟨p, 1, none⟩ = some z1 → w.frozen? ⟨p, 0, none⟩ = false → w.frozen? ⟨p, 1, none⟩ = false →
      (execOp a.eval os).run P w = .ok .skip ((w.setCell ⟨p, 0, none⟩ v0).setCell ⟨p, 1, none⟩ v1)) :
    Stores P os d x (.agg #[v0, v1]) (.cells #[z0, z1] T) (.cells #[v0, v1] T) :=
  ⟨hg, hd, fun a w p h1 h2 h3 h4 => ⟨_, hr a w p h1 h2 (cell_of_block h4 rfl) (cell_of_block h4 rfl) (frozen_of_block h4) (frozen_of_block h4), rfl, rfl, rfl, by rw [set_size', set_size'], fun k hk => by rw [set_far hk, set_far hk], by rw [set_block (set_block h4)]; rfl⟩⟩
end
end Go.Proofs.Ytgefidffhdanhaa
