/- The contracts of package task, second part: coming to rest. -/
import Derived.Test.YtnbejkhcifeeiaaTaskC0
import Derived.RangeFuncNested
import Derived.RangeFuncBound
import Derived.RangeFuncCalls
import Derived.RangeFuncLeaves
import Derived.RangeFuncBox
import Derived.Shelf.Abstract
import Derived.Shelf.AbstractIn
import Derived.Shelf.RegionOpen
import Derived.WalkKit
import Derived.OwnWalkIn
import Derived.TacticsInMore
import Derived.LoopNIn
import Derived.LoopIn
namespace Go.Proofs.Ytnbejkhcifeeiaa
open Go.ChangeShapes Go.WideShapes Go.ChangeAt Go.RowKit Go.Shelf
set_option linter.unusedVariables false
set_option linter.unusedSimpArgs false
attribute [local go_sem] Ext.cell Ext.froz Ext.lt Ext.lt1 Ext.lt2 Ext.lt3 Ext.all drew_heap setCell_size Ext.set_size
attribute [local go_sem] Oper.semAt_some
attribute [-go_sem] Instr.build
namespace Tk
open Wl Ce Rw
/-- How a round is left: it goes on, from a further state; or the function returns. -/
def leftBy {σ : Type} (B : Nat) (nx : σ → σ → Prop) (I : σ → World → Prop) (Ix : World → Prop) (s : σ) (W : World) : Exit → Act → World → Prop
  | .normal, _, W' => KeepsFrom B W W' ∧ ∃ s', nx s s' ∧ I s' W'
  | .ret, _, W' => KeepsFrom B W W' ∧ Ix W'
  | _, _, _ => False
/-- A function to range over that tells one value after the other, each out of the state that the round ahead of it has left in memory (R); it ends where nothing more is to be told (fin). -/
def Looks {σ : Type} (F : Fence) (n : Nat) (P : Program) (gf : Nat) (lb : Array Value) (enc : σ → Array Value) (nx : σ → σ → Prop) (fin : σ → Prop) (R : σ → World → Prop) : Prop :=
  ∀ (l : Nat) (J : σ → World → Prop) (Jx : World → Prop), (∀ s W, J s W → R s W) → (∀ s W W', J s W → W.grownBy W' none → J s W') →
    (∀ s W, J s W → ¬ fin s → YieldAt F (n - 1) P l (enc s) W fun e W' => ∃ b : Bool, e = .returned (.bool b) ∧ (b = true → ∃ s', nx s s' ∧ J s' W') ∧ (b = false → Jx W')) →
    ∀ s W, J s W → CallsIn F n P gf (#[.func (.yield l) #[] #[]] ++ lb) W fun e W' => (∃ v, e = .returned v) ∧ ((∃ s', fin s' ∧ J s' W') ∨ Jx W')
/-- The range over such a function: one walk of the body from any state. -/
theorem range_looks {F : Fence} {n : Nat} {P : Program} {σ : Type} {g : Operand} {ps : Array Tmp} {assign body : Code} {Q : Exit → Act → World → Prop} {a : Act} {w : World}
    (hro : F.round = none) (h1 : 1 ≤ n) {gf : Nat} {lb : Array Value} (hg : a.eval g = .func (.func gf) #[] lb) (hFg : F.fn gf) (eg : ∀ args w, (callFunc gf args).run P w = .ok (.enter gf args) w)
    {enc : σ → Array Value} {nx : σ → σ → Prop} {fin : σ → Prop} {R : σ → World → Prop} (hseq : Looks F (n - 1) P gf lb enc nx fin R) (hps : ∀ s, (enc s).size = ps.size)
    (I : σ → World → Prop) (Ix : World → Prop) (hI : OwnFrom w.heap.size I) (hIx : OwnFrom w.heap.size (fun (_ : Unit) W => Ix W)) (hR : ∀ s W, I s W → R s W) (s₀ : σ) (h0 : I s₀ w)
    (Ax : σ → Act → World → Prop) (hAx : ∀ s a', OwnFrom w.heap.size (fun (_ : Unit) W => Ax s a' W))
    (hassign : ∀ (l : Nat) (s : σ) (W : World) (K : Act → World → Prop), I s W → (∀ a' W', KeepsFrom w.heap.size W W' → I s W' → Ax s a' W' → K a' W') →
      assign.wpIn (F.inRound l) (n - 1 - 1) P (Exit.then K (fun _ _ _ => False)) { tmps := (ps.zip (enc s)).foldl (fun t (p, v) => t.setIfInBounds p v) a.tmps, defers := [] } W)
    (hbody : ∀ (l : Nat) (s : σ) (a' : Act) (W : World), I s W → Ax s a' W → ¬ fin s → body.wpIn (F.inRound l) (n - 1 - 1) P (leftBy w.heap.size nx I Ix s W) a' W)
    (hdone : ∀ (D : Nat) (s : σ) (W : World), w.heap.size ≤ D → fin s → I s W → W.heap[D]? = some (.deferred (some [])) → Q .normal { a with defers := { target := .collected D, args := #[] } :: a.defers } W)
    (hstop : ∀ (D : Nat) (W : World), w.heap.size ≤ D → Ix W → W.heap[D]? = some (.deferred (some [])) → Code.ret.wpIn F n P Q { a with defers := { target := .collected D, args := #[] } :: a.defers } W) :
    (Code.rangeFunc g ps assign body).wpIn F n P Q a w := by
  refine wpIn_rangeFunc fun fn hfn => ?_
  rw [hro]
  -- the record of the loop, in whatever state, and the two blocks that the loop lays for itself
  let rec' : LoopState → Option Code → Loop := fun st pe => { state := st, pending := pe, fn := fn, tmps := a.tmps, params := ps, assign := assign, body := body, defers := w.heap.size }
  let Bk : LoopState → Option Code → World → Prop := fun st pe W => W.heap[w.heap.size + 1]? = some (.loop (rec' st pe)) ∧ W.heap[w.heap.size]? = some (.deferred (some []))
  have turn : ∀ {st pe W} (st' pe'), Bk st pe W → Bk st' pe' (W.putObj (w.heap.size + 1) (.loop (rec' st' pe'))) := fun st' pe' h =>
    ⟨World.putObj_heap_same (Array.getElem?_eq_some_iff.1 h.1).1, (World.putObj_heap_other (by omega)).trans h.2⟩
  have stay : ∀ {st pe W W'}, Bk st pe W → KeepsFrom w.heap.size W W' → Bk st pe W' := fun h k =>
    ⟨k.same _ _ (by omega) h.1 rfl, k.same _ _ (Nat.le_refl _) h.2 rfl⟩
  have start : Bk .ready none ((w.alloc (.deferred (some []))).alloc (.loop (rec' .ready none))) :=
    ⟨by have := World.alloc_heap_new (w.alloc (.deferred (some []))) (.loop (rec' .ready none)); rwa [World.size_alloc] at this,
     (Below.heap_alloc _ _ _ (by simp)).trans (World.alloc_heap_new w _)⟩
  obtain ⟨W1, hW1⟩ : ∃ W1, (w.alloc (.deferred (some []))).alloc (.loop (rec' .ready none)) = W1 := ⟨_, rfl⟩
  have hI1 : I s₀ W1 := by rw [← hW1]; exact hI.alloc _ (hI.alloc _ h0)
  have hen := run_enterLoop_outer (P := P) (w := w) fn a.tmps ps assign body
  rw [show (w.alloc (.deferred (some []))).alloc (.loop { state := .ready, pending := none, fn := fn, tmps := a.tmps, params := ps, assign := assign, body := body, defers := w.heap.size }) = W1 from hW1] at hen
  rw [hW1] at start
  refine ⟨w.heap.size + 1, [{ target := .collected w.heap.size, args := #[] }], W1, { target := .fn (.func gf) lb, args := #[.func (.yield (w.heap.size + 1)) #[] #[]] }, W1, gf,
    #[.func (.yield (w.heap.size + 1)) #[] #[]] ++ lb, W1, hen, by simp only [resolve, hg]; simp [go_sem], ?_, by simp [invoke, go_sem, eg], fun _ => h1, ?_⟩
  · intro f' hf'; simp [Target.leads] at hf'; subst hf'; exact hFg
  refine (hseq (w.heap.size + 1) (fun s W => I s W ∧ Bk .ready none W) (fun W => Ix W ∧ Bk .done (some .ret) W) (fun s W h => hR s W h.1) (fun s W W' h hg => ⟨hI _ _ _ none h.1 hg (fun r e => by cases e), ⟨(hg.block _ (Array.getElem?_eq_some_iff.1 h.2.1).1 (by simp)).trans h.2.1, (hg.block _ (Array.getElem?_eq_some_iff.1 h.2.2).1 (by simp)).trans h.2.2⟩⟩) ?_ s₀ _ ⟨hI1, start⟩).mono ?_
  · rintro s W ⟨hs, hb⟩ hnf
    refine ⟨fn, _, assign, body, run_yield (P := P) (args := enc s) hb.1 (hps s), roundIn_of_wpIn hfn (hassign _ s W _ hs fun a' V hk hs' hax => ?_)⟩
    have hb' := stay hb hk
    refine ⟨_, run_beginRound hb'.1 rfl, ?_⟩
    have hb2 := turn .busy none hb'
    refine wpIn_mono (hbody _ s a' _ (hI.putObj _ hs' (by omega) hb'.1 rfl) ((hAx s a').putObj (s := ()) _ hax (by omega) hb'.1 rfl) hnf) ?_
    intro e a3 W3 hp
    cases e with
    | normal =>
      obtain ⟨hk3, s', hnx, hs3⟩ := hp
      have hb3 := stay hb2 hk3
      exact ⟨_, _, run_endRound none hb3.1, true, rfl, fun _ => ⟨s', hnx, hI.putObj _ hs3 (by omega) hb3.1 rfl, turn .ready none hb3⟩, fun h => Bool.noConfusion h⟩
    | ret =>
      obtain ⟨hk3, hs3⟩ := hp
      have hb3 := stay hb2 hk3
      exact ⟨_, _, run_endRound (some .ret) hb3.1, false, rfl, fun h => Bool.noConfusion h, fun _ => ⟨hIx.putObj (s := ()) _ hs3 (by omega) hb3.1 rfl, turn .done (some .ret) hb3⟩⟩
    | exit id => exact hp.elim
    | goto t => exact hp.elim
    | panic c => exact hp.elim
    | outgrown => exact hp.elim
  · rintro e W2 ⟨⟨v, rfl⟩, (⟨s', hf, hs', hb⟩ | ⟨hx, hb⟩)⟩
    · exact ⟨none, _, run_endLoop hb.1 (by simp [rec']), hdone _ s' _ (Nat.le_refl _) hf (hI.putObj _ hs' (by omega) hb.1 rfl) ((World.putObj_heap_other (by omega)).trans hb.2)⟩
    · exact ⟨some .ret, _, run_endLoop hb.1 (by simp [rec']), hstop _ _ (Nat.le_refl _) (hIx.putObj (s := ()) _ hx (by omega) hb.1 rfl) ((World.putObj_heap_other (by omega)).trans hb.2)⟩
theorem Row.kept {W W' : World} {row : Option Nat} {B : Nat} {ty : TypeId} {c : Array Value} (h : Row W B ty c) (hg : W.grownBy W' row) (hr : ∀ r, row = some r → ∃ o : Obj, W.heap[r]? = some o ∧ o.isCells = false) : Row W' B ty c :=
  (hg.block B h.lt (fun e' => by obtain ⟨o, ho, hc⟩ := hr B e'.symm; rw [show W.heap[B]? = _ from h] at ho; cases ho; cases hc)).trans h
/-- What is told of a state: its instruction. -/
def insV (x : Ins) : Value := .agg #[.int .i64 x.k, .int .i64 x.i, .int .i64 x.r, .int .i64 x.go, .int .u64 x.a]
def ovr (s : T) : Prop := s.pc < 0 ∨ (s.code.length : Int) ≤ s.pc
/-- What is read between two rounds: the task's box, and the box of what points to it. -/
structure Rd (w : World) (ca : Option Addr) (cc : Nat) (code : List Ins) (B Bt : Nat) (s : T) (W : World) : Prop where
  row : Row W B 27 (TV ca cc s)
  ptr : Row W Bt 74 #[.pointer (some ⟨B, 0, none⟩)]
  mr : Mr w W
  code : s.code = code
  len : s.R.length = 32
theorem mr_gb {W W' : World} (h : Mr W W') : W.grownBy W' none := ⟨h.below.os, h.below.tape, h.below.output, h.below.size, fun k hk _ => h.below.block k hk⟩
set_option maxRecDepth 100000 in
set_option maxHeartbeats 2000000 in
theorem look_c {ca : Option Addr} {cc : Nat} {code : List Ins} {B Bt : Nat} (w : World) (h : Inss w ca cc code) (n : Nat) (hn : 1 ≤ n) :
    Looks Fence.wide n Try.prog 46 #[.pointer (some ⟨Bt, 0, none⟩)] (fun s : T => #[insV (at' s.code s.pc.toNat)]) (fun s s' => s.pc < s'.pc) ovr (Rd w ca cc code B Bt) := fun l J Jx hJ hJg hY s0 W0 h0 => by
  refine callsIn_of_wp Try.func46 rfl trivial ?_ rfl
  simp only [Try.ntmps46, List.size_toArray, List.length_cons, List.length_nil, Nat.reduceAdd, Nat.reduceSub, Array.replicate_succ, Array.replicate_zero, List.push_toArray, List.append_toArray, List.nil_append, List.cons_append]
  gi_wp2
  gi_loopw [] (fun wr => ∃ s, J s wr) (fun wr => ((code.length : Int) - intOf ((wr.cell? ⟨B, 1, none⟩).getD undef)).toNat)
  case atStart => exact ⟨s0, h0⟩
  case round =>
    obtain ⟨s, hs⟩ := hrel
    have hR := hJ s _ hs
    have c1 := (hR.row.cell 1).trans (TV_1 _ _ _)
    have c0 := (hR.row.cell 0).trans (TV_0 _ _ _)
    have p0 : wr.cell? ⟨Bt, 0, none⟩ = some (.pointer (some ⟨B, 0, none⟩)) := hR.ptr.cell 0
    have lB := hR.row.lt
    have lBt := hR.ptr.lt
    have hcode := hR.code
    rw [hcode] at c0
    obtain ⟨N, eN⟩ : ∃ N, code.length = N := ⟨_, rfl⟩
    rw [eN] at c0
    by_cases hp : ovr s
    · have hp' : s.pc < 0 ∨ (¬ s.pc < 0 ∧ (N : Int) ≤ s.pc) := by unfold ovr at hp; rw [hcode, eN] at hp; omega
      have hfin : Hid (∀ x : Ext wr, ∃ s', ovr s' ∧ J s' x.u) := fun x => ⟨s, hp, hJg _ _ _ hs (mr_gb x.h)⟩
      clear hp hY hs hR
      generalize s.pc = pc at *
      rcases hp' with h1 | ⟨h1, h2⟩
      · have h1' : ¬ 0 ≤ pc := by omega
        have h1d : decide (0 ≤ pc) = false := by simp; omega
        gi_wp2
        (refine wpIn_wide.2 ?_; refine wp_region_ext (by kernel_rfl) (by kernel_rfl) ?_; (repeat (go_big_quiet_step (fail))); refine wpQuiet_nil ?_; rintro w1 ⟨x1, rfl⟩)
        gi_wp2
        go_end0
        exact ⟨⟨_, rfl⟩, .inl (hfin.out x1)⟩
      · have h1' : 0 ≤ pc := by omega
        gi_wp2
        (refine wpIn_wide.2 ?_; refine wp_region_ext (by kernel_rfl) (by kernel_rfl) ?_; (repeat (go_big_quiet_step (fail))); refine wpQuiet_nil ?_; rintro w1 ⟨x1, rfl⟩)
        gi_wp2
        go_end0
        exact ⟨⟨_, rfl⟩, .inl (hfin.out x1)⟩
    · have hp' : ¬ s.pc < 0 ∧ ¬ (N : Int) ≤ s.pc := by unfold ovr at hp; rw [hcode, eN] at hp; omega
      obtain ⟨q, hq⟩ := Int.eq_ofNat_of_zero_le (show 0 ≤ s.pc by omega)
      have hqN : q < N := by omega
      have hqN' : (q : Int) < N := by omega
      have hq0 : 0 ≤ (q : Int) := by omega
      rw [hq] at c1
      gi_wp2
      (refine wpIn_wide.2 ?_; refine wp_region_ext (by kernel_rfl) (by kernel_rfl) ?_; (repeat (go_big_quiet_step (fail))); refine wpQuiet_nil ?_; rintro w1 ⟨x1, rfl⟩)
      have hms : Hid (intOf ((wr.cell? ⟨B, 1, none⟩).getD undef) = q) := by rw [Hid, c1]; rfl
      have hs1 := hJg _ _ _ hs (mr_gb x1.h)
      clear c0 c1 p0 lB lBt hR
      generalize x1.u = W at *
      clear x1
      have hR := hJ s _ hs1
      have c1 := (hR.row.cell 1).trans (TV_1 _ _ _)
      have c0 := (hR.row.cell 0).trans (TV_0 _ _ _)
      have p0 : W.cell? ⟨Bt, 0, none⟩ = some (.pointer (some ⟨B, 0, none⟩)) := hR.ptr.cell 0
      rw [hcode, eN] at c0
      obtain ⟨b, o, k, i, r, g, p, rfl, hb, hat, -, d0, d1, d2, d3, d4⟩ := (h.mr hR.mr).num q (by omega)
      have hy := hY s W.drew (hJg _ _ _ hs1 ⟨rfl, rfl, rfl, Nat.le_refl _, fun _ _ _ => rfl⟩) hp
      rw [hcode, hq, Int.toNat_natCast, hat] at hy
      rw [hq] at c1
      obtain ⟨fn, tmps, assign, body, hy, hR2⟩ := hy
      dsimp only [insV] at hy
      have hJ2 : Hid (∀ s' W', J s' W' → intOf ((W'.cell? ⟨B, 1, none⟩).getD undef) = s'.pc) := fun s' W' hs' => by
        rw [((hJ s' _ hs').row.cell 1).trans (TV_1 _ _ _)]; rfl
      replace hR2 : Hid _ := hR2
      replace hy : Hid _ := hy
      clear hY hR hp hs hs1
      have hmix : Try.prog.follows .mixedOrders = true := by kernel_rfl
      gi_wp2
      gi_region_with_o (go_loud (simp only [hy.out, go_sem]; refine ⟨fun _ => hn, ?_⟩; refine RoundIn.mono hR2.out ?_; rintro e W3 ⟨bb, rfl, hpost⟩))
      all_goals
        cases bb
        · have hx : Jx W3 := hpost.2 rfl
          gi_wp2
          refine bodyPost_ret (results_none rfl _ _ _) rfl ?_
          exact ⟨⟨_, rfl⟩, .inr hx⟩
        · obtain ⟨s', hlt, hs'⟩ := hpost.1 rfl
          gi_wp2
          go_round
          case rel => exact ⟨s', hs'⟩
          case measure => rw [hms.out, hJ2.out s' _ hs']; omega
end Tk
end Go.Proofs.Ytnbejkhcifeeiaa
