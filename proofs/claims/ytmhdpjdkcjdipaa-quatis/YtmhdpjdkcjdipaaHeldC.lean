/- A call that leaves the world as it is may be taken first in a region that draws its order. -/
import Derived.Test.YtmhdpjdkcjdipaaMemC
import Derived.Deep.RegionHeld3
namespace Go.Proofs.Ytmhdpjdkcjdipaa
namespace Hc
variable {P : Program} {ops : Array Oper} {Q : Exit → Act → World → Prop} {md : Region.Mode} {S : World → Prop}
/-- Something that stays true of the frame whatever else of the region comes up. -/
def Stays (P : Program) (ops : Array Oper) (Q : Exit → Act → World → Prop) (ok : Oper → Prop) (T : Act → Prop) : Prop :=
  ∀ (j : Nat) (oj : Oper) (K : Act → World → Prop) (a : Act) (w : World), ops[j]? = some oj → ok oj → T a → wpOp P ops Q j K a w → wpOp P ops Q j (fun a' w' => T a' ∧ K a' w') a w
/-- An operation whose effect is one value, by whatever means: taken first. -/
theorem first_of {i : Nat} {oi of : Oper} {v : Value} {T : Act → Prop} (hd : of.dst = oi.dst) (hsf : ∀ cs b, of.op ≠ .select cs b) (hsel : Region.noSelect ops = true)
    (hof : ∀ a, YieldsIf P ops S of v a) (hT : Stays P ops Q (fun oj => oi.apart ops oj = true) T) (hap : ∀ oj, oi.apart ops oj = true → of.apart ops oj = true)
    (hstep : ∀ (K : Act → World → Prop) (a : Act) (w : World), T a → S w → K (a.put oi.dst v) w → wpOp P ops Q i K a w)
    (hQ : ∀ c a w, Q (.panic c) (a.put oi.dst v) w → Q (.panic c) a w) (n : Nat) :
    ∀ (listed : Array Bool) (a : Act) (w : World),
      (∀ j oj, ops[j]? = some oj → j ≠ i → listed.getD j true = false → (∀ e ∈ oj.after, Region.binds md e = true → e.on ≠ i) → oi.apart ops oj = true) →
      i ∈ Region.ready md ops listed → T a → S w → wpAnyH P md ops Q S n (listed.setIfInBounds i true) (a.put oi.dst v) w → wpAnyH P md ops Q S (n + 1) listed a w := by
  induction n with
  | zero =>
    intro listed a w _ hr ht hS H
    constructor
    · intro h; rw [h] at hr; cases hr
    · intro j hj
      by_cases e : j = i
      · rw [e]; exact hstep _ _ _ ht hS ⟨hS, H⟩
      · have := ready_mono (i := i) hj e
        rw [H.1] at this
        cases this
  | succ n ih =>
    intro listed a w hfree hr ht hS H
    constructor
    · intro h; rw [h] at hr; cases hr
    · intro j hj
      by_cases e : j = i
      · rw [e]; exact hstep _ _ _ ht hS ⟨hS, H⟩
      · obtain ⟨hun, oj, hoj, hall⟩ := mem_ready.1 hj
        have hno : ∀ d ∈ oj.after, Region.binds md d = true → d.on ≠ i := by
          intro d hd' hb heq
          have k1 := hall d hd' hb
          have k0 := (mem_ready.1 hr).1
          rw [heq] at k1
          by_cases hlt : i < listed.size
          · simp only [Array.getD_eq_getD_getElem?, Array.getElem?_eq_getElem hlt, Option.getD_some] at k0 k1
            rw [k0] at k1; cases k1
          · rw [Array.getD_eq_getD_getElem?, Array.getElem?_eq_none (by omega)] at k1; cases k1
        have hij := hfree j oj hoj e hun hno
        have s1 := H.2 j (ready_mono hj e)
        rw [← hd] at s1
        have s2 := wpOp_putIf (oi := of) hoj (hap oj hij) hsf (fun cs b => Region.noSelect_spec hsel j oj cs b hoj) (by rw [hd]; exact hQ) (hof a) s1
        have s3 := hT j oj _ a w hoj hij ht s2
        refine wpOp_mono (fun a' w' g => ⟨g.2.2.1, ?_⟩) s3
        refine ih (listed.setIfInBounds j true) a' w' ?_ (ready_mono hr (fun h => e h.symm)) g.1 g.2.2.1 ?_
        · intro k ok hk hki hunk hnok
          refine hfree k ok hk hki ?_ hnok
          by_cases hjk : j = k
          · rw [← hjk]; exact hun
          · rwa [getD_set_ne true hjk] at hunk
        · rw [Array.setIfInBounds_comm _ _ (fun h => e h)]
          have g3 := g.2.2.2
          rw [hd] at g3
          exact g3
/-- That a temporary holds a value. -/
def holds (t : Tmp) : Oper := { dst := none, op := .move (.tmp t), type := 0, pos := "", after := #[], guard := none }
/-- A value that is written out. -/
def gives (d : Option Tmp) (v : Value) : Oper := { dst := d, op := .move (.const v), type := 0, pos := "", after := #[], guard := none }
theorem put_none (a : Act) (v : Value) : a.put none v = a := rfl
theorem stays_holds {oi : Oper} {t : Tmp} {x : Value} (hsel : Region.noSelect ops = true) (hap : ∀ oj, oi.apart ops oj = true → (holds t).apart ops oj = true) : Stays P ops Q (fun oj => oi.apart ops oj = true) (fun a => YieldsIf P ops S (holds t) x a) := by
  intro j oj K a w hj hok hy h
  have := wpOp_putIf (oi := holds t) (v := x) hj (hap oj hok) (fun cs b e => by cases e) (fun cs b => Region.noSelect_spec hsel j oj cs b hj) (fun _ _ _ h => h) hy (show wpOp P ops Q j K (a.put none x) w from h)
  exact this
theorem gives_yields (d : Option Tmp) (v : Value) (a : Act) : YieldsIf P ops S (gives d v) v a := by
  refine .inl ⟨rfl, fun w _ => ?_⟩
  simp [gives, execOp, go_sem]
theorem holds_tmp {t : Tmp} {x : Value} {a : Act} {w : World} (hS : S w) (h : YieldsIf P ops S (holds t) x a) : a.tmps.getD t undef = x := by
  rcases h with ⟨_, h⟩ | ⟨h, _⟩
  · have := h w hS
    simp [holds, execOp, go_sem] at this
    simpa using this
  · cases h
theorem apart_holds {oi oj : Oper} {t : Tmp} (ht : t ∈ oi.looksAt ops) (h : oi.apart ops oj = true) : (holds t).apart ops oj = true := by
  obtain ⟨h1, h2, h3⟩ := Oper.apart_spec h
  unfold Oper.apart holds
  simp only [Bool.true_and]
  cases hd : oj.dst with
  | none => rfl
  | some d =>
    have := h3 d hd
    simp [Oper.looksAt]
    intro x hx e
    have hx' : x = .tmp t := by simpa [Op.operands] using hx
    rw [hx'] at e
    simp at e
    rw [e] at ht
    exact this ht
theorem apart_gives {oi oj : Oper} {v : Value} (h : oi.apart ops oj = true) : (gives oi.dst v).apart ops oj = true := by
  unfold Oper.apart gives at *
  rw [Bool.and_eq_true] at h ⊢
  refine ⟨h.1, ?_⟩
  cases oj.dst <;> simp [Oper.looksAt]
  intro x hx e
  have hx' : x = .const v := by simpa [Op.operands] using hx
  rw [hx'] at e
  cases e
/-- A call of one temporary that leaves the world as it is. -/
theorem take_call {i : Nat} {oi : Oper} {f : FuncId} {t : Tmp} {ty : Array TypeId} {x v : Value} {n : Nat} {listed : Array Bool} {a : Act} {w : World} (hi : ops[i]? = some oi)
    (hop : oi.op = .call { callee := .value (.func f), args := #[.tmp t], argTypes := ty }) (hg : oi.guard = none) (hl : (oi.looksAt ops).contains t = true)
    (hs : Region.noSelect ops = true) (hf : Region.free md ops listed i = true) (hr : (Region.ready md ops listed).contains i = true)
    (hQ : ∀ c a w, Q (.panic c) (a.put oi.dst v) w → Q (.panic c) a w)
    (he : ∀ args w, (callFunc f args).run P w = .ok (.enter f args) w)
    (hc : ∀ w, S w → Calls P f #[x] w fun e w' => e = .returned v ∧ w' = w) (hS : S w) (hx : a.tmps.getD t undef = x)
    (h : wpAnyH P md ops Q S n (listed.setIfInBounds i true) (a.put oi.dst v) w) : wpAnyH P md ops Q S (n + 1) listed a w := by
  refine first_of (oi := oi) (of := gives oi.dst v) (T := fun a => YieldsIf P ops S (holds t) x a) rfl (fun cs b e => by cases e) hs (fun a => gives_yields _ _ a) (stays_holds (oi := oi) hs (fun oj => apart_holds (List.contains_iff_mem.1 hl))) (fun oj => apart_gives) ?_ hQ n listed a w (Region.free_spec hi hf) (by simpa using hr) ?_ hS h
  · intro K a w hT hS hK
    have ht := holds_tmp hS hT
    unfold wpOp
    simp only [hi]
    have hw : Region.wanted oi (yielded ops a.tmps) = true := by unfold Region.wanted; rw [hg]
    rw [if_pos hw]
    refine .inl ?_
    unfold Oper.wp
    have hexec : (execOp a.eval oi).run P w = .ok (.enter f #[x]) w := by
      simp [execOp, hop, go_sem, he]
      simpa using ht
    rw [hexec]
    simp only [Oper.upon]
    exact (hc w hS).mono (by rintro e w' ⟨rfl, rfl⟩; exact hK)
  · refine .inl ⟨rfl, fun w _ => ?_⟩
    have hx2 : a.tmps[t]?.getD undef = x := by simpa using hx
    simp [holds, execOp, go_sem, hx2]
end Hc
end Go.Proofs.Ytmhdpjdkcjdipaa
