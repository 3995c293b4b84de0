/- The contracts of package task, third part: coming to rest (the rounds). -/
import Derived.Test.YtnbejkhcifeeiaaTaskC1
import Derived.RangeFuncNested
import Derived.RangeFuncBound
import Derived.RangeFuncCalls
import Derived.RangeFuncLeaves
import Derived.RangeFuncBox
import Derived.Shelf.Abstract
import Derived.Shelf.AbstractIn
import Derived.Shelf.RegionOpen
import Derived.WalkKit
import Derived.OwnWalkIn
import Derived.TacticsInMore
import Derived.LoopNIn
import Derived.LoopIn
import Derived.Sort.QuietIn
namespace Go.Proofs.Ytnbejkhcifeeiaa
open Go.ChangeShapes Go.WideShapes Go.ChangeAt Go.RowKit Go.Shelf
set_option linter.unusedVariables false
set_option linter.unusedSimpArgs false
attribute [local go_sem] Ext.cell Ext.froz Ext.lt Ext.lt1 Ext.lt2 Ext.lt3 Ext.all drew_heap setCell_size Ext.set_size
attribute [local go_sem] Oper.semAt_some
attribute [-go_sem] Instr.build
namespace Tk
open Wl Ce Rw
theorem in_load_row {F : Fence} {n : Nat} {P : Program} {ops : Array Oper} {rest : List Oper} {o : Oper} {a : Act} {w : World} {Q : Exit → Act → World → Prop} (hgd : o.guard = none) (ty : TypeId) (x : Operand) (ho : o.op = .load ty x)
    (g : Nat) (hx : a.eval x = .pointer (some ⟨g, 0, none⟩)) (t : TypeId) (cs : Array Value) (d : TypeDesc) (hg : Row w g t cs)
    (hu : P.underlying ty = some d) (hd : (match d with | .struct _ | .array _ _ => true | _ => false) = true) (hi : (P.info? ty).map (·.size) = some cs.size)
    (h : wpListIn F n P ops Q rest (a.put o.dst (.agg cs)) w) : wpListIn F n P ops Q (o :: rest) a w :=
  wpListIn_plain hgd fun K hK => by
    refine ⟨by simp [Oper.about, ho], ?_⟩
    rw [Oper.semAt_plain F _ _ (by rw [ho]; intro c hc; cases hc)]
    simp only [execOp, ho, hx, Instr.loadAt, Instr.sureAddr, Sem.run_bind, Sem.run_pure, Result.andThen_ok, run_loadVar_row w g t ty cs (0, 0) d hg hu hd hi]
    exact hK _ _ h
theorem in_store_row {F : Fence} {n : Nat} {P : Program} {ops : Array Oper} {rest : List Oper} {o : Oper} {a : Act} {w : World} {Q : Exit → Act → World → Prop} (hgd : o.guard = none) (ty : TypeId) (x y : Operand) (ho : o.op = .store ty x y)
    (g : Nat) (cs : Array Value) (hx : a.eval x = .pointer (some ⟨g, 0, none⟩)) (hy : a.eval y = .agg cs) (t : TypeId) (old : Array Value) (hg : Row w g t old) (hi : (P.info? ty).map (·.size) = some cs.size)
    (hold : old.size = cs.size) (h1 : cs.all (·.oneCell') = true)
    (h : wpListIn F n P ops Q rest (a.put o.dst undef) (w.setRow g cs)) : wpListIn F n P ops Q (o :: rest) a w :=
  wpListIn_plain hgd fun K hK => by
    refine ⟨by simp [Oper.about, ho], ?_⟩
    rw [Oper.semAt_plain F _ _ (by rw [ho]; intro c hc; cases hc)]
    simp only [execOp, ho, hx, hy, Instr.storeAt, Instr.sureAddr, Sem.run_bind, Sem.run_pure, Result.andThen_ok, run_storeVar_row w g t ty old cs hg hi hold h1]
    exact hK _ _ h
theorem keeps_row {W : World} {g : Nat} {ty : TypeId} {c : Array Value} (h : Row W g ty c) (c' : Array Value) : KeepsOthers W (W.setRow g c') :=
  ⟨by simp [World.setRow], fun k o hk ho => by
    have hne : g ≠ k := fun e => by subst e; rw [show W.heap[g]? = _ from h] at hk; cases hk; cases ho
    unfold World.setRow
    simp only [Array.getElem?_modify]
    rw [if_neg hne]; exact hk⟩
theorem keeps_mr {W W' : World} (h : Mr W W') : KeepsOthers W W' := ⟨h.below.size, fun k o hk _ => by
  rw [h.below.block k (Array.getElem?_eq_some_iff.1 hk).1]; exact hk⟩
theorem wide_fn (f : FuncId) : Fence.wide.fn f = True := rfl
attribute [local go_sem] wide_fn
theorem mr_drewN (W : World) (m : Nat) : Mr W (W.drewN m) := ⟨⟨rfl, rfl, rfl, Nat.le_refl _, fun _ _ => rfl⟩⟩
theorem wp_round {l n : Nat} {P : Program} {o : Oper} {a : Act} {w : World} {K K' : Act → World → Prop} {Q : Exit → Act → World → Prop} (hd : ∀ c, o.op ≠ .defer c) (hK : ∀ a w, K a w → K' a w)
    (h : o.wpIn Fence.wide n P a w K Q) : o.wpIn (Fence.wide.inRound l) n P a w K' Q := by
  unfold Oper.wpIn at *
  refine ⟨fun _ _ => trivial, ?_⟩
  have h := h.2
  rw [Oper.semAt_plain _ _ _ hd] at h ⊢
  generalize (execOp a.eval o).run P w = r at *
  cases r with
  | ok x w' =>
    cases x <;> simp only [Oper.uponIn] at h ⊢ <;>
      first
        | exact hK _ _ h
        | exact ⟨h.1, CallsIn.inRound l (CallsIn.mono h.2 (fun e w'' he => by cases e <;> first | exact hK _ _ he | exact he))⟩
        | exact ⟨h.1, RowsIn.mono h.2 (fun _ _ he => hK _ _ he)⟩
        | exact ⟨h.1, RoundIn.mono h.2 (fun e w'' he => by cases e <;> first | exact hK _ _ he | exact he)⟩
  | halt x w' => cases x <;> simp only [Oper.uponIn] at h ⊢ <;> exact h
def noDefer (ops : Array Oper) : Bool := ops.toList.all (fun o => match o.op with | .defer _ => false | _ => true)
theorem any_round {l n : Nat} {P : Program} {md : Region.Mode} {ops : Array Oper} {Q : Exit → Act → World → Prop} (hd : noDefer ops = true) : ∀ (fuel : Nat) (listed : Array Bool) (a : Act) (w : World), wpAnyIn Fence.wide n P md ops Q fuel listed a w → wpAnyIn (Fence.wide.inRound l) n P md ops Q fuel listed a w
  | 0, _, _, _, h => h
  | fuel + 1, listed, a, w, h => ⟨h.1, fun i hi => by
    have h2 := h.2 i hi
    unfold wpOpIn at *
    split
    · rename_i ho; simp only [ho] at h2; exact any_round hd fuel _ _ _ h2
    · rename_i o ho
      simp only [ho] at h2
      have hnd : ∀ c, o.op ≠ .defer c := fun c e => by
        have := List.all_eq_true.1 hd o (by rw [Array.mem_toList_iff]; exact Array.mem_of_getElem? ho)
        rw [e] at this; cases this
      split
      · rename_i hw; simp only [hw, if_true] at h2; exact wp_round hnd (fun a w q => any_round hd fuel _ _ _ q) h2
      · rename_i hw; simp only [hw] at h2; exact ⟨fun _ _ => trivial, any_round hd fuel _ _ _ h2.2⟩⟩
/-- A region that draws its order and whose operations leave the world alone, in a round. -/
theorem region_round {l n id : Nat} {P : Program} {ops : List Oper} {Q : Exit → Act → World → Prop} {a : Act} {w : World} (hm : P.follows .mixedOrders = true) (hB : Region.lexB .any ops.toArray = true) (hd : noDefer ops.toArray = true)
    (h : wpQuietIn Fence.wide n P ops.toArray (fun w' => ∃ m, w' = w.drewN m) (fun a' => ∀ w', (∃ m, w' = w.drewN m) → Q .normal a' w') ops a) : (Code.region id ops.toArray true).wpIn (Fence.wide.inRound l) n P Q a w := by
  have h2 : wpQuietIn Fence.wide n P ops.toArray (fun w' => ∃ m, w' = w.drewN m) (fun a' => ∀ w', (∃ m, w' = w.drewN m) → Q .normal a' w') ops.toArray.toList a := by simpa using h
  simp only [Region.lexB, Bool.and_eq_true] at hB
  refine wpIn_region_any hm (any_round hd _ _ _ _ (wpAnyIn_of_quiet (C := fun w' => ∃ m, w' = w.drewN m) (Q := fun a' => ∀ w', (∃ m, w' = w.drewN m) → Q .normal a' w') rfl (fun _ w' hw' h => h w' hw') _ _ _ _ ⟨1, rfl⟩ ?_))
  have := wpAnyQIn_lex (F := Fence.wide) (n := n) (C := fun w' => ∃ m, w' = w.drewN m) (md := .any) hB.1 ops.toArray.toList 0 (Array.replicate ops.toArray.size false) a (by simp) (by simpa using hB.2) h2
  simpa using this
/-- The round's frame. -/
def fr (V : Value) (TB RB Bt Bx : Nat) (x : Ins) : Array Value := #[V, .pointer (some ⟨TB, 0, none⟩), .pointer (some ⟨RB, 0, none⟩), .pointer (some ⟨Bx, 0, none⟩), undef, .func (.func 46) #[] #[.pointer (some ⟨Bt, 0, none⟩)], insV x, undef, undef, undef, undef, undef, undef, undef, undef, undef, undef, undef, undef, undef, undef, undef, undef, undef, undef, undef, undef, undef, undef, undef, undef, undef, undef, undef, undef, undef, undef, undef, undef, undef, undef, undef, undef, undef, undef, undef, undef, undef, undef, undef, undef, undef, undef, undef, undef, undef, undef, undef, undef, undef]
/-- Between two rounds. -/
structure St (w : World) (ca : Option Addr) (cc : Nat) (t : T) (TB RB Bt : Nat) (s : T) (W : World) : Prop where
  rd : Rd w ca cc t.code TB Bt s W
  res : ∃ Z, Row W RB 27 Z ∧ Z.size = 36
  tok : Tok s
  nd : s.done = false
  fuel : ∃ n, Tk.rs n s = rest t ∧ (0 ≤ s.pc → (t.code.length : Int) - s.pc < n) ∧ 0 < n
theorem St.keep {w : World} {ca : Option Addr} {cc : Nat} {t : T} {TB RB Bt : Nat} {s : T} {W W' : World} {row : Option Nat} (h : St w ca cc t TB RB Bt s W) (hg : W.grownBy W' row) (hr : ∀ r, row = some r → w.heap.size ≤ r ∧ ∃ o : Obj, W.heap[r]? = some o ∧ o.isCells = false) : St w ca cc t TB RB Bt s W' :=
  ⟨⟨Row.kept h.rd.row hg (fun r e => (hr r e).2), Row.kept h.rd.ptr hg (fun r e => (hr r e).2), h.rd.mr.grownBy hg (fun r e => (hr r e).1), h.rd.code, h.rd.len⟩, by obtain ⟨Z, h1, h2⟩ := h.res; exact ⟨Z, Row.kept h1 hg (fun r e => (hr r e).2), h2⟩, h.tok, h.nd, h.fuel⟩
/-- It moves on. -/
theorem St.go {w : World} {ca : Option Addr} {cc : Nat} {t : T} {TB RB Bt : Nat} {s : T} {W : World} {p : Int} (h : St w ca cc t TB RB Bt s W) (hTB : w.heap.size ≤ TB) (n1 : TB ≠ RB) (n2 : TB ≠ Bt) (hp : s.pc < p ∧ p ≤ 1000) (h0 : 0 ≤ s.pc)
    (hf : ∀ n, Tk.rs (n + 1) s = rest t → Tk.rs n { s with pc := p } = rest t) (hin : s.pc < t.code.length) : St w ca cc t TB RB Bt { s with pc := p } (W.setCell ⟨TB, 1, none⟩ (.int .i64 p)) := by
  refine ⟨⟨?_, h.rd.ptr.set_ne (a := ⟨TB, 1, none⟩) n2 _, h.rd.mr.setCell hTB _, h.rd.code, h.rd.len⟩, ?_, ⟨h.tok.len, h.tok.reg, by simp only; omega, h.tok.ans⟩, h.nd, ?_⟩
  · have := h.rd.row.set 1 (.int .i64 p); rwa [TV_set1] at this
  · obtain ⟨Z, h1, h2⟩ := h.res; exact ⟨Z, h1.set_ne (a := ⟨TB, 1, none⟩) n1 _, h2⟩
  · obtain ⟨n, e1, e2, e3⟩ := h.fuel
    obtain ⟨m, rfl⟩ : ∃ m, n = m + 1 := ⟨n - 1, by omega⟩
    have := e2 h0
    exact ⟨m, hf m e1, fun _ => by simp only; omega, by omega⟩
theorem rest_ret {ca : Option Addr} {cc : Nat} {t : T} {w : World} (hT : Tok t) {D RB : Nat} {W : World} (hD : w.heap.size ≤ D) (hK : W.heap[D]? = some (.deferred (some []))) (hr : Row W RB 27 (TV ca cc t)) (hm : Mr w W) (tm : Array Value) (htm : tm.getD 2 undef = .pointer (some ⟨RB, 0, none⟩)) :
    bodyPostM Fence.wide 5 Try.prog Try.f36 (fun e w' => e = .returned (.agg (TV ca cc t)) ∧ ∃ x : Ext w, w' = x.u) .ret { tmps := tm, defers := [{ target := .collected D, args := #[] }] } W := by
  have hg := grownBy_putObj' W D (.deferred none)
  have hr2 := Row.kept hr hg (fun r e => by cases e; exact ⟨_, hK, rfl⟩)
  refine ⟨by simp, .inl ⟨_, _, rfl, run_takeDeferred hK, ?_⟩⟩
  exact ⟨.agg (TV ca cc t), results_cell_row Try.results36 _ _ RB 27 _ (0, 0) _ htm hr2 Try.underlying27 rfl (sizeT hT.len), rfl, Mr.mk' (hm.grownBy hg (fun r e => by cases e; exact hD))⟩
set_option maxRecDepth 100000 in
set_option maxHeartbeats 4000000 in
theorem rest_c {ca : Option Addr} {cc : Nat} {t : T} (w : World) (h : Tis w ca cc t) (hs : sane t.code = true) (hd : t.done = false) :
    Calls Try.prog 36 #[.agg (TV ca cc t)] w fun e w' => e = .returned (.agg (TV ca cc (rest t))) ∧ ∃ x : Ext w, w' = x.u := by
  have hl := (sane_iff.1 hs).2.2
  obtain ⟨hI, hT⟩ := h
  obtain ⟨V, hV⟩ : ∃ V, TV ca cc t = V := ⟨_, rfl⟩
  have hT2 := hT.rest hs
  have hsz2 := sizeT (ca := ca) (cc := cc) hT2.len
  have hS0 : St w ca cc t w.heap.size (w.heap.size + 1) (w.heap.size + 1 + 1) t (((w.alloc (.cells V 27)).alloc (.cells #[Value.slice none 0 0, Value.int IntKind.i64 0, Value.int IntKind.u64 0, Value.int IntKind.u64 0, Value.int IntKind.u64 0, Value.int IntKind.u64 0, Value.int IntKind.u64 0, Value.int IntKind.u64 0, Value.int IntKind.u64 0, Value.int IntKind.u64 0, Value.int IntKind.u64 0, Value.int IntKind.u64 0, Value.int IntKind.u64 0, Value.int IntKind.u64 0, Value.int IntKind.u64 0, Value.int IntKind.u64 0, Value.int IntKind.u64 0, Value.int IntKind.u64 0, Value.int IntKind.u64 0, Value.int IntKind.u64 0, Value.int IntKind.u64 0, Value.int IntKind.u64 0, Value.int IntKind.u64 0, Value.int IntKind.u64 0, Value.int IntKind.u64 0, Value.int IntKind.u64 0, Value.int IntKind.u64 0, Value.int IntKind.u64 0, Value.int IntKind.u64 0, Value.int IntKind.u64 0, Value.int IntKind.u64 0, Value.int IntKind.u64 0, Value.int IntKind.u64 0, Value.int IntKind.u64 0, Value.bool false, Value.int IntKind.i64 0] 27)).alloc (.cells #[.pointer (some ⟨w.heap.size, 0, none⟩)] 74)) :=
    ⟨⟨by rw [hV]; exact ((Row.new w _ V).alloc _).alloc _, row_new _ (by simp), (((Mr.refl w).alloc _).alloc _).alloc _, rfl, hT.len⟩, ⟨_, (row_new _ (by simp)).alloc _, rfl⟩, hT, hd, ⟨t.code.length + 1, rfl, by omega, by omega⟩⟩
  rw [hV]
  refine (callsIn_wide (n := 5)).1 ?_
  refine callsIn_of_wp_marks Try.func36 rfl trivial ?_ rfl
  simp only [Try.ntmps36, List.size_toArray, List.length_cons, List.length_nil, Nat.reduceAdd, Nat.reduceSub, Array.replicate_succ, Array.replicate_zero, List.push_toArray, List.append_toArray, List.nil_append, List.cons_append]
  gi_wp2_with (gi_at_call 42; refine (callsIn_wide.2 (onward_c _)).mono ?_; rintro e w' ⟨rfl, rfl⟩)
  have hsz0 : (((w.alloc (.cells V 27)).alloc (.cells #[Value.slice none 0 0, Value.int IntKind.i64 0, Value.int IntKind.u64 0, Value.int IntKind.u64 0, Value.int IntKind.u64 0, Value.int IntKind.u64 0, Value.int IntKind.u64 0, Value.int IntKind.u64 0, Value.int IntKind.u64 0, Value.int IntKind.u64 0, Value.int IntKind.u64 0, Value.int IntKind.u64 0, Value.int IntKind.u64 0, Value.int IntKind.u64 0, Value.int IntKind.u64 0, Value.int IntKind.u64 0, Value.int IntKind.u64 0, Value.int IntKind.u64 0, Value.int IntKind.u64 0, Value.int IntKind.u64 0, Value.int IntKind.u64 0, Value.int IntKind.u64 0, Value.int IntKind.u64 0, Value.int IntKind.u64 0, Value.int IntKind.u64 0, Value.int IntKind.u64 0, Value.int IntKind.u64 0, Value.int IntKind.u64 0, Value.int IntKind.u64 0, Value.int IntKind.u64 0, Value.int IntKind.u64 0, Value.int IntKind.u64 0, Value.int IntKind.u64 0, Value.int IntKind.u64 0, Value.bool false, Value.int IntKind.i64 0] 27)).alloc (.cells #[.pointer (some ⟨w.heap.size, 0, none⟩)] 74)).heap.size = w.heap.size + 3 := by simp
  generalize (((w.alloc (.cells V 27)).alloc (.cells #[Value.slice none 0 0, Value.int IntKind.i64 0, Value.int IntKind.u64 0, Value.int IntKind.u64 0, Value.int IntKind.u64 0, Value.int IntKind.u64 0, Value.int IntKind.u64 0, Value.int IntKind.u64 0, Value.int IntKind.u64 0, Value.int IntKind.u64 0, Value.int IntKind.u64 0, Value.int IntKind.u64 0, Value.int IntKind.u64 0, Value.int IntKind.u64 0, Value.int IntKind.u64 0, Value.int IntKind.u64 0, Value.int IntKind.u64 0, Value.int IntKind.u64 0, Value.int IntKind.u64 0, Value.int IntKind.u64 0, Value.int IntKind.u64 0, Value.int IntKind.u64 0, Value.int IntKind.u64 0, Value.int IntKind.u64 0, Value.int IntKind.u64 0, Value.int IntKind.u64 0, Value.int IntKind.u64 0, Value.int IntKind.u64 0, Value.int IntKind.u64 0, Value.int IntKind.u64 0, Value.int IntKind.u64 0, Value.int IntKind.u64 0, Value.int IntKind.u64 0, Value.int IntKind.u64 0, Value.bool false, Value.int IntKind.i64 0] 27)).alloc (.cells #[.pointer (some ⟨w.heap.size, 0, none⟩)] 74)) = W0 at *
  refine range_looks rfl (by omega) (gf := 46) (lb := #[.pointer (some ⟨w.heap.size + 1 + 1, 0, none⟩)]) rfl trivial (enters_of Try.func46 (by kernel_rfl) rfl) (look_c w hI 4 (by omega)) (fun _ => rfl)
    (St w ca cc t w.heap.size (w.heap.size + 1) (w.heap.size + 1 + 1)) (fun W => Row W (w.heap.size + 1) 27 (TV ca cc (rest t)) ∧ Mr w W)
    (fun s A B row hs hg hr => hs.keep hg (fun r e => by obtain ⟨q1, q2⟩ := hr r e; exact ⟨by omega, q2⟩))
    (fun _ A B row hs hg hr => ⟨Row.kept hs.1 hg (fun r e => (hr r e).2), hs.2.grownBy hg (fun r e => by have := (hr r e).1; omega)⟩)
    (fun s W h => h.rd) t hS0
    (fun s a' W => ∃ Bx, w.heap.size + 3 ≤ Bx ∧ Row W Bx 53 #[.int .i64 (at' s.code s.pc.toNat).k, .int .i64 (at' s.code s.pc.toNat).i, .int .i64 (at' s.code s.pc.toNat).r, .int .i64 (at' s.code s.pc.toNat).go, .int .u64 (at' s.code s.pc.toNat).a] ∧ a' = { tmps := fr (.agg V) w.heap.size (w.heap.size + 1) (w.heap.size + 1 + 1) Bx (at' s.code s.pc.toNat), defers := [] })
    (fun s a' _ A B row hs hg hr => by
      obtain ⟨Bx, h1, h2, h3⟩ := hs
      exact ⟨Bx, h1, Row.kept h2 hg (fun r e => (hr r e).2), h3⟩)
    ?assign ?body ?done ?stop
  case assign =>
    rintro l s W K hs hK
    have hlt := hs.rd.ptr.lt
    have hK2 : Hid _ := hK
    clear hK
    dsimp only [insV]
    gi_wp2
    refine hK2.out _ _ (KeepsOthers.from (by repeat (first | exact KeepsOthers.refl _ | refine KeepsOthers.trans ?_ (KeepsOthers.setCell _ _ _) | refine KeepsOthers.trans ?_ (KeepsOthers.drew _) | refine KeepsOthers.trans ?_ (KeepsOthers.alloc _ _))) _) (hs.keep (World.grownBy_alloc _ _ none) (fun r e => by cases e)) ⟨_, ?_, Row.new _ _ _, rfl⟩
    omega
  case body =>
    rintro l s a' W hst ⟨Bx, hBx, hx, rfl⟩ hnf
    replace hsz0 : Hid _ := hsz0
    have hcode := hst.rd.code
    obtain ⟨q, hq⟩ := Int.eq_ofNat_of_zero_le (show 0 ≤ s.pc by unfold ovr at hnf; omega)
    have hqN : q < t.code.length := by unfold ovr at hnf; rw [hcode] at hnf; omega
    have hsa := saneAt_iff.1 ((sane_iff.1 hs).1 q hqN)
    have hstep : ∀ n, Tk.rs (n + 1) s = if (at' t.code q).k ≤ 2 then s else if (at' t.code q).k = 6 then { s with done := true, ans := wrap64 (at' t.code q).a } else if jump s (at' t.code q) then Tk.rs n { s with pc := (at' t.code q).go } else Tk.rs n { s with pc := (q : Int) + 1 } := fun n => by
      rw [Tk.rs, if_neg (by rw [hst.nd]; decide), if_neg (by rw [hcode]; omega)]
      simp only [hcode, hq, Int.toNat_natCast]
    rw [hcode, hq, Int.toNat_natCast] at hx ⊢
    generalize at' t.code q = X at *
    obtain ⟨k, i, r, g, p⟩ := X
    obtain ⟨⟨hk0, hk6⟩, hr, hg1, hg2⟩ := hsa
    simp only at hk0 hk6 hr hg1 hg2 hstep hx
    obtain ⟨rr, rfl⟩ := Int.eq_ofNat_of_zero_le hr.1
    have hrr : rr < 32 := by omega
    have hrr' : (rr : Int) < 32 := by omega
    have x0 : W.cell? ⟨Bx, 0, none⟩ = some (.int .i64 k) := hx.cell 0
    have x1 : W.cell? ⟨Bx, 1, none⟩ = some (.int .i64 i) := hx.cell 1
    have x2 : W.cell? ⟨Bx, 2, none⟩ = some (.int .i64 rr) := hx.cell 2
    have x3 : W.cell? ⟨Bx, 3, none⟩ = some (.int .i64 g) := hx.cell 3
    have x4 : W.cell? ⟨Bx, 4, none⟩ = some (.int .u64 p) := hx.cell 4
    have hRc : Hid (∀ j, j < 32 → W.cell? ⟨w.heap.size, 2 + j, none⟩ = some (.int .u64 (gt s.R j))) := fun j hj => (hst.rd.row.cell (2 + j)).trans (TV_R hst.tok.len hj)
    have c1 := (hst.rd.row.cell 1).trans (TV_1 _ _ _)
    rw [hq] at c1
    have lB := hst.rd.row.lt
    have lX := hx.lt
    have f1 := hst.rd.row.froz 1
    have hmix : Try.prog.follows .mixedOrders = true := by kernel_rfl
    obtain ⟨n, hrs, -, hn⟩ := hst.fuel
    obtain ⟨n, rfl⟩ : ∃ m, n = m + 1 := ⟨n - 1, by omega⟩
    rw [hstep] at hrs
    simp only [fr, insV]
    have hrow : Hid (Row W w.heap.size 27 (TV ca cc s)) := hst.rd.row
    obtain ⟨Z, hZ0, hZs⟩ := hst.res
    have hZ : Hid (Row W (w.heap.size + 1) 27 Z) := hZ0
    have hzs : Hid (Z.size = (TV ca cc s).size) := by rw [Hid, hZs, TV_size hst.tok.len]
    have hsz := sizeT (ca := ca) (cc := cc) hst.tok.len
    have hone := TV_one ca cc s
    by_cases h2 : k ≤ 2
    · rw [if_pos h2] at hrs
      replace hrs : Hid (s = rest t) := hrs
      have e3 : (k == 3) = false := by simp; omega
      have e4 : (k == 4) = false := by simp; omega
      have e5 : (k == 5) = false := by simp; omega
      have e6 : (k == 6) = false := by simp; omega
      have hfin : ∀ act, leftBy W0.heap.size (fun s s' => s.pc < s'.pc) (St w ca cc t w.heap.size (w.heap.size + 1) (w.heap.size + 1 + 1)) (fun W => Row W (w.heap.size + 1) 27 (TV ca cc (rest t)) ∧ Mr w W) s W .ret act (W.setRow (w.heap.size + 1) (TV ca cc s)) := fun act => ⟨(keeps_row hZ0 _).from _, by rw [← hrs.out]; exact Row.row hZ0 _, mr_row hst.rd.mr (by omega) _⟩
      replace hfin : Hid _ := hfin
      clear hrs hst hstep hnf hZ0 hRc
      gi_wp2_with (first | (refine in_load_row rfl 27 _ rfl w.heap.size rfl 27 _ _ hrow.out Try.underlying27 rfl hsz ?_) | (refine in_store_row rfl 27 _ _ rfl (w.heap.size + 1) _ rfl rfl 27 _ hZ.out hsz hzs.out hone ?_))
      exact hfin.out _
    · rw [if_neg h2] at hrs
      by_cases k6 : k = 6
      · subst k6
        rw [if_pos rfl] at hrs
        replace hrs : Hid _ := hrs
        have hfin : ∀ (y : Ext W) act, leftBy W0.heap.size (fun s s' => s.pc < s'.pc) (St w ca cc t w.heap.size (w.heap.size + 1) (w.heap.size + 1 + 1)) (fun W => Row W (w.heap.size + 1) 27 (TV ca cc (rest t)) ∧ Mr w W) s W .ret act (y.u.setRow (w.heap.size + 1) (TV ca cc { s with done := true, ans := wrap64 p })) := fun y act => ⟨((keeps_mr y.h).trans (keeps_row (hZ0.mr y.h) _)).from _, by rw [← hrs.out]; exact Row.row (hZ0.mr y.h) _, mr_row (hst.rd.mr.trans y.h) (by omega) _⟩
        replace hfin : Hid _ := hfin
        have hdn : ∀ W, Calls Try.prog 35 #[.agg (TV ca cc s), .int .i64 (wrap64 p)] W fun e w' => e = .returned (.agg (TV ca cc { s with done := true, ans := wrap64 p })) ∧ ∃ x : Ext W, w' = x.u := fun W => done_c W hst.tok
        have hsz2 := sizeT (ca := ca) (cc := cc) (t := { s with done := true, ans := wrap64 p }) hst.tok.len
        have hone2 := TV_one ca cc { s with done := true, ans := wrap64 p }
        have hzs2 : Hid (Z.size = (TV ca cc { s with done := true, ans := wrap64 p }).size) := by rw [Hid, hZs, TV_size (t := { s with done := true, ans := wrap64 p }) hst.tok.len]
        clear hrs hst hstep hnf hZ0 hRc hcode hq
        generalize TV ca cc { s with done := true, ans := wrap64 p } = V6 at *
        generalize TV ca cc s = V5 at *
        gi_wp2_with (first | (refine in_load_row rfl 27 _ rfl w.heap.size rfl 27 _ _ hrow.out Try.underlying27 rfl hsz ?_) | (gi_at_call 35; refine (CallsIn.inRound l (callsIn_wide.2 (hdn _))).mono ?_; rintro e w' ⟨rfl, y, rfl⟩; have hZ2 := hZ.out.mr y.h) | (refine in_store_row rfl 27 _ _ rfl (w.heap.size + 1) _ rfl rfl 27 _ hZ2 hsz2 hzs2.out hone2 ?_))
        exact hfin.out _ _
      · rw [if_neg k6] at hrs
        have e6 : (k == 6) = false := by simpa using k6
        have cR := hRc.out rr hrr
        have hgo : ∀ (p' : Int) (act : Act) (W' : World), Mr W W' → (jump s ⟨k, i, rr, g, p⟩ = true → p' = g) → (jump s ⟨k, i, rr, g, p⟩ = false → p' = (q : Int) + 1) → leftBy W0.heap.size (fun s s' => s.pc < s'.pc) (St w ca cc t w.heap.size (w.heap.size + 1) (w.heap.size + 1 + 1)) (fun W => Row W (w.heap.size + 1) 27 (TV ca cc (rest t)) ∧ Mr w W) s W .normal act (W'.setCell ⟨w.heap.size, 1, none⟩ (.int .i64 p')) := fun p' act W' hm hy hn => by
          have hb : s.pc < p' ∧ p' ≤ 1000 := by
            cases hj : jump s ⟨k, i, rr, g, p⟩
            · have := hn hj; omega
            · have := hy hj; omega
          refine ⟨((keeps_mr hm).trans (KeepsOthers.setCell _ _ _)).from _, { s with pc := p' }, hb.1, ?_⟩
          refine St.go (hst.keep (mr_gb hm) (fun r e => by cases e)) (Nat.le_refl _) (by omega) (by omega) hb (by omega) (fun m hm2 => ?_) (by omega)
          rw [hstep, if_neg h2, if_neg k6] at hm2
          cases hj : jump s ⟨k, i, rr, g, p⟩
          · rw [hj] at hm2; rw [hn hj]; exact hm2
          · rw [hj] at hm2; rw [hy hj]; exact hm2
        replace hgo : Hid _ := hgo
        have hst0 := hst
        clear hrs hst hstep hnf hZ0 hrow hZ hx hzs hsz hone
        have hj : (k = 3 ∧ Hid (jump s ⟨k, i, rr, g, p⟩ = decide (gt s.R rr = p))) ∨ (k = 4 ∧ Hid (jump s ⟨k, i, rr, g, p⟩ = decide (gt s.R rr % 2 = 1))) ∨ (k = 5 ∧ Hid (jump s ⟨k, i, rr, g, p⟩ = decide (gt s.R rr = gt s.R (i % 32).toNat))) := by
          by_cases k3 : k = 3
          · exact .inl ⟨k3, by subst k3; rfl⟩
          · by_cases k4 : k = 4
            · exact .inr (.inl ⟨k4, by subst k4; rfl⟩)
            · have : k = 5 := by omega
              exact .inr (.inr ⟨this, by subst this; rfl⟩)
        rcases hj with ⟨rfl, hj⟩ | ⟨rfl, hj⟩ | ⟨rfl, hj⟩
        · obtain ⟨G, hG0⟩ : ∃ G, gt s.R rr = G := ⟨_, rfl⟩
          have hjt : G = p → jump s ⟨3, i, rr, g, p⟩ = true := fun e => by rw [hj.out, hG0, e]; simp
          have hjf : ¬ G = p → jump s ⟨3, i, rr, g, p⟩ = false := fun e => by rw [hj.out, hG0]; simp [e]
          rw [hG0] at cR
          clear hG0 hcode hq hj hRc hst0
          by_cases hG : G = p
          · replace hjt : Hid _ := hjt hG
            subst hG
            clear hjf
            gi_wp2
            (refine region_round (by kernel_rfl) (by kernel_rfl) (by kernel_rfl) ?_; (repeat (gi_big_quiet_step ((gi_at_call 43; refine CallsIn.quiet_of_same (callsIn_wide.2 (hmod _)))))); refine wpQuietIn_nil ?_; rintro w1 ⟨m1, rfl⟩)
            gi_wp2
            exact hgo.out g _ _ (mr_drewN _ _) (fun _ => rfl) (fun e => by rw [hjt.out] at e; cases e)
          · replace hjf : Hid _ := hjf hG
            have hG' : (G == p) = false := by simpa using hG
            clear hjt
            gi_wp2
            (refine region_round (by kernel_rfl) (by kernel_rfl) (by kernel_rfl) ?_; (repeat (gi_big_quiet_step ((gi_at_call 43; refine CallsIn.quiet_of_same (callsIn_wide.2 (hmod _)))))); refine wpQuietIn_nil ?_; rintro w1 ⟨m1, rfl⟩)
            gi_wp2
            exact hgo.out ((q : Int) + 1) _ _ (mr_drewN _ _) (fun e => by rw [hjf.out] at e; cases e) (fun _ => rfl)
        · have hGb := hst0.tok.reg rr
          obtain ⟨G, hG0⟩ : ∃ G, gt s.R rr = G := ⟨_, rfl⟩
          have hjt : G % 2 = 1 → jump s ⟨4, i, rr, g, p⟩ = true := fun e => by rw [hj.out, hG0, e]; rfl
          have hjf : ¬ G % 2 = 1 → jump s ⟨4, i, rr, g, p⟩ = false := fun e => by rw [hj.out, hG0]; simp [e]
          rw [hG0] at cR hGb
          clear hG0 hcode hq hj hRc hst0
          by_cases hG : G % 2 = 1
          · replace hjt : Hid _ := hjt hG
            have hG2 : G.tmod 2 = 1 := by rw [Int.tmod_eq_emod_of_nonneg hGb.1]; exact hG
            clear hjf
            gi_wp2
            exact hgo.out g _ _ (Mr.refl _) (fun _ => rfl) (fun e => by rw [hjt.out] at e; cases e)
          · replace hjf : Hid _ := hjf hG
            replace hG : G % 2 = 0 := by omega
            have hG2 : G.tmod 2 = 0 := by rw [Int.tmod_eq_emod_of_nonneg hGb.1]; exact hG
            clear hjt
            gi_wp2
            exact hgo.out ((q : Int) + 1) _ _ (Mr.refl _) (fun e => by rw [hjf.out] at e; cases e) (fun _ => rfl)
        · obtain ⟨jj, hjj⟩ := Int.eq_ofNat_of_zero_le (show 0 ≤ i % 32 by omega)
          have hjl : jj < 32 := by omega
          have hjl' : (jj : Int) < 32 := by omega
          have hmod : ∀ W, Calls Try.prog 43 #[.int .i64 i, .int .i64 32] W fun e w' => e = .returned (.int .i64 jj) ∧ w' = W := fun W => by
            have := modulo_c (n := i) (count := 32) W (by omega) (by omega)
            rw [show i % ((32 : Nat) : Int) = jj from hjj] at this
            exact this
          have cR2 := hRc.out jj hjl
          rw [hjj, Int.toNat_natCast] at hj
          obtain ⟨G, hG0⟩ : ∃ G, gt s.R rr = G := ⟨_, rfl⟩
          obtain ⟨G2, hG1⟩ : ∃ G, gt s.R jj = G := ⟨_, rfl⟩
          have hjt : G = G2 → jump s ⟨5, i, rr, g, p⟩ = true := fun e => by rw [hj.out, hG0, hG1, e]; simp
          have hjf : ¬ G = G2 → jump s ⟨5, i, rr, g, p⟩ = false := fun e => by rw [hj.out, hG0, hG1]; simp [e]
          rw [hG0] at cR
          rw [hG1] at cR2
          clear hG0 hG1 hcode hq hj hRc hst0 hjj
          by_cases hG : G = G2
          · replace hjt : Hid _ := hjt hG
            subst hG
            clear hjf
            gi_wp2
            (refine region_round (by kernel_rfl) (by kernel_rfl) (by kernel_rfl) ?_; (repeat (gi_big_quiet_step ((gi_at_call 43; refine CallsIn.quiet_of_same (callsIn_wide.2 (hmod _)))))); refine wpQuietIn_nil ?_; rintro w1 ⟨m1, rfl⟩)
            gi_wp2
            exact hgo.out g _ _ (mr_drewN _ _) (fun _ => rfl) (fun e => by rw [hjt.out] at e; cases e)
          · replace hjf : Hid _ := hjf hG
            have hG' : (G == G2) = false := by simpa using hG
            clear hjt
            gi_wp2
            (refine region_round (by kernel_rfl) (by kernel_rfl) (by kernel_rfl) ?_; (repeat (gi_big_quiet_step ((gi_at_call 43; refine CallsIn.quiet_of_same (callsIn_wide.2 (hmod _)))))); refine wpQuietIn_nil ?_; rintro w1 ⟨m1, rfl⟩)
            gi_wp2
            exact hgo.out ((q : Int) + 1) _ _ (mr_drewN _ _) (fun e => by rw [hjf.out] at e; cases e) (fun _ => rfl)
  case done =>
    rintro D s W hD hf hst hK
    have hrow : Hid (Row W w.heap.size 27 (TV ca cc s)) := hst.rd.row
    obtain ⟨Z, hZ0, hZs⟩ := hst.res
    have hZ : Hid (Row W (w.heap.size + 1) 27 Z) := hZ0
    have hsz := sizeT (ca := ca) (cc := cc) hst.tok.len
    have hrs : Hid ({ s with done := true, ans := -1 } = rest t) := by
      obtain ⟨n, e1, -, e3⟩ := hst.fuel
      obtain ⟨n, rfl⟩ : ∃ m, n = m + 1 := ⟨n - 1, by omega⟩
      rw [Hid, ← e1, Tk.rs, if_neg (by rw [hst.nd]; decide), if_pos (by exact hf)]
    have hdn : ∀ W, Calls Try.prog 35 #[.agg (TV ca cc s), .int .i64 (-1)] W fun e w' => e = .returned (.agg (TV ca cc (rest t))) ∧ ∃ x : Ext W, w' = x.u := fun W => by
      rw [← hrs.out]; exact done_c W hst.tok
    have hone2 := TV_one ca cc (rest t)
    have hzs2 : Hid (Z.size = (TV ca cc (rest t)).size) := by rw [Hid, hZs, TV_size hT2.len]
    gi_wp2_with (first | (refine in_load_row rfl 27 _ rfl w.heap.size rfl 27 _ _ hrow.out Try.underlying27 rfl hsz ?_) | (gi_at_call 35; refine (callsIn_wide.2 (hdn _)).mono ?_; rintro e w' ⟨rfl, y, rfl⟩; have hZ2 := hZ.out.mr y.h) | (refine in_store_row rfl 27 _ _ rfl (w.heap.size + 1) _ rfl rfl 27 _ hZ2 hsz2 hzs2.out hone2 ?_))
    have hDl := (Array.getElem?_eq_some_iff.1 hK).1
    have hK1 : y.u.heap[D]? = some (.deferred (some [])) := by rw [y.h.below.block D hDl]; exact hK
    have hK2 := (keeps_row hZ2 (TV ca cc (rest t))).same D _ hK1 rfl
    exact rest_ret hT2 (by omega) hK2 (Row.row hZ2 _) (mr_row (hst.rd.mr.trans y.h) (by omega) _) _ rfl
  case stop =>
    rintro D W hD ⟨hr, hm⟩ hK
    gi_wp2
    exact rest_ret hT2 (by omega) hK hr hm _ rfl
end Tk
end Go.Proofs.Ytnbejkhcifeeiaa
