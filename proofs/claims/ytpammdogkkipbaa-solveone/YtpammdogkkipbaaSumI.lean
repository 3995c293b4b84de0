/- Ranges over functions: the terms that package sum tells, and their exact sum. -/
import Derived.Test.YtpammdogkkipbaaWideC
import Derived.Test.YtpammdogkkipbaaSumS
import Derived.RangeFuncNested
import Derived.RangeFuncBound
import Derived.RangeFuncCalls
import Derived.RangeFuncLeaves
import Derived.RangeFuncBox
import Derived.Shelf.Abstract
import Derived.Shelf.AbstractIn
import Derived.Shelf.RegionOpen
import Derived.WalkKit
import Derived.OwnWalkIn
import Derived.TacticsInMore
import Derived.LoopNIn
import Derived.LoopIn
namespace Go.Proofs.Ytpammdogkkipbaa
open Go.ChangeShapes Go.WideShapes Go.ChangeAt Go.RowKit Go.Shelf
open Go.Proofs.Ytpammdogkkipbaa.Fx Go.Proofs.Ytpammdogkkipbaa.Wd
set_option linter.unusedVariables false
attribute [local go_sem] Ext.cell Ext.froz Ext.lt Ext.lt1 Ext.lt2 Ext.lt3 Ext.all Ext.set_u drew_heap setCell_size Ext.set_size
attribute [local go_sem] Oper.semAt_some
theorem Mr.gb {W W' : World} (h : Mr W W') : W.grownBy W' none := ⟨h.below.os, h.below.tape, h.below.output, h.below.size, fun k hk _ => h.below.block k hk⟩
theorem Mr.keeps {W W' : World} (h : Mr W W') : KeepsOthers W W' := ⟨h.below.size, fun k o hk _ => by
  rw [h.below.block k (Array.getElem?_eq_some_iff.1 hk).1]; exact hk⟩
/-- All blocks below n lie as they lay, but for some. -/
structure Ke (ex : Nat → Prop) (n : Nat) (w w' : World) : Prop where
  os : w'.os = w.os
  tape : w'.tape = w.tape
  output : w'.output = w.output
  size : w.heap.size ≤ w'.heap.size
  block : ∀ k, k < n → ¬ ex k → w'.heap[k]? = w.heap[k]?
theorem Ke.refl (ex : Nat → Prop) (n : Nat) (w : World) : Ke ex n w w := ⟨rfl, rfl, rfl, Nat.le_refl _, fun _ _ _ => rfl⟩
theorem Ke.trans {ex : Nat → Prop} {n : Nat} {a b c : World} (h : Ke ex n a b) (k : Ke ex n b c) : Ke ex n a c :=
  ⟨k.os.trans h.os, k.tape.trans h.tape, k.output.trans h.output, Nat.le_trans h.size k.size, fun i hi he => (k.block i hi he).trans (h.block i hi he)⟩
theorem Ke.of_mr {ex : Nat → Prop} {n : Nat} {w w' : World} (h : Mr w w') (hn : n ≤ w.heap.size) : Ke ex n w w' :=
  ⟨h.below.os, h.below.tape, h.below.output, h.below.size, fun k hk _ => h.below.block k (by omega)⟩
theorem Ke.setCell {ex : Nat → Prop} {n : Nat} {w w' : World} (h : Ke ex n w w') {a : Addr} (ha : ex a.block) (v : Value) : Ke ex n w (w'.setCell a v) :=
  ⟨h.os, h.tape, h.output, by rw [setCell_size]; exact h.size, fun k hk he => by
    rw [← h.block k hk he]
    show (w'.heap.modify a.block _)[k]? = _
    rw [Array.getElem?_modify]
    split
    · rename_i e; exact absurd (e ▸ ha) he
    · rfl⟩
theorem Ke.putObj {ex : Nat → Prop} {n : Nat} (W : World) {l : Nat} {o : Obj} (hl : n ≤ l) (o' : Obj) : Ke ex n W (W.putObj l o') :=
  have g := grownBy_putObj' W l o'
  ⟨g.os, g.tape, g.output, g.size, fun k hk he => by
    rcases Nat.lt_or_ge k W.heap.size with h | h
    · exact g.block k h (fun e => by simp at e; omega)
    · rw [Array.getElem?_eq_none h, World.putObj_heap_other (by omega), Array.getElem?_eq_none h]⟩
theorem Ke.cell {ex : Nat → Prop} {n : Nat} {w w' : World} (h : Ke ex n w w') {b o : Nat} (hb : b < n) (he : ¬ ex b) : w'.cell? ⟨b, o, none⟩ = w.cell? ⟨b, o, none⟩ :=
  World.cell?_of_block (a := ⟨b, o, none⟩) (h.block b hb he)
/-- A box that holds a struct of two. -/
def Bk (W : World) (B : Nat) (t : TypeId) (p q : Value) : Prop := W.heap[B]? = some (.cells #[p, q] t (0, 0))
theorem Bk.lt {W : World} {B : Nat} {t : TypeId} {p q : Value} (h : Bk W B t p q) : B < W.heap.size := (Array.getElem?_eq_some_iff.1 h).1
theorem Bk.c0 {W : World} {B : Nat} {t : TypeId} {p q : Value} (h : Bk W B t p q) : W.cell? ⟨B, 0, none⟩ = some p := by simp [World.cell?, show W.heap[B]? = _ from h]
theorem Bk.c1 {W : World} {B : Nat} {t : TypeId} {p q : Value} (h : Bk W B t p q) : W.cell? ⟨B, 1, none⟩ = some q := by simp [World.cell?, show W.heap[B]? = _ from h]
theorem Bk.f0 {W : World} {B : Nat} {t : TypeId} {p q : Value} (h : Bk W B t p q) : W.frozen? ⟨B, 0, none⟩ = false := by simp [World.frozen?, show W.heap[B]? = _ from h]
theorem Bk.f1 {W : World} {B : Nat} {t : TypeId} {p q : Value} (h : Bk W B t p q) : W.frozen? ⟨B, 1, none⟩ = false := by simp [World.frozen?, show W.heap[B]? = _ from h]
theorem Bk.new (W : World) (t : TypeId) (p q : Value) : Bk (W.alloc (.cells #[p, q] t)) W.heap.size t p q := World.alloc_heap_new W _
theorem Bk.ext {W : World} {B : Nat} {t : TypeId} {p q : Value} (h : Bk W B t p q) (x : Ext W) : Bk x.u B t p q := (x.h.below.block B h.lt).trans h
theorem Bk.alloc {W : World} {B : Nat} {t : TypeId} {p q : Value} (h : Bk W B t p q) (o : Obj) : Bk (W.alloc o) B t p q := (World.grownBy_alloc W o none).block B h.lt (by simp) |>.trans h
theorem Bk.drew {W : World} {B : Nat} {t : TypeId} {p q : Value} (h : Bk W B t p q) : Bk W.drew B t p q := by unfold Bk; rw [drew_heap]; exact h
theorem Bk.other {W : World} {B B' o : Nat} {t : TypeId} {p q : Value} (h : Bk W B t p q) (hne : B ≠ B') (v : Value) : Bk (W.setCell ⟨B', o, none⟩ v) B t p q := by
  unfold Bk at *
  rw [← h]
  show (W.heap.modify B' _)[B]? = _
  rw [Array.getElem?_modify, if_neg (fun e => hne e.symm)]
theorem Bk.set {W : World} {B : Nat} {t : TypeId} {p q : Value} (h : Bk W B t p q) (p' q' : Value) : Bk ((W.setCell ⟨B, 0, none⟩ p').setCell ⟨B, 1, none⟩ q') B t p' q' := by
  unfold Bk at *
  simp only [World.setCell, Array.getElem?_modify, if_pos, h, Option.map_some]
  rfl
theorem Bk.kept {W W' : World} {row : Option Nat} {B : Nat} {t : TypeId} {p q : Value} (h : Bk W B t p q) (hg : W.grownBy W' row) (hr : ∀ r, row = some r → ∃ o : Obj, W.heap[r]? = some o ∧ o.isCells = false) : Bk W' B t p q :=
  (hg.block B h.lt (fun e' => by obtain ⟨o, ho, hc⟩ := hr B e'.symm; rw [show W.heap[B]? = _ from h] at ho; cases ho; cases hc)).trans h
/-- A box that holds one value. -/
def B1 (W : World) (B : Nat) (t : TypeId) (p : Value) : Prop := W.heap[B]? = some (.cells #[p] t (0, 0))
theorem B1.lt {W : World} {B : Nat} {t : TypeId} {p : Value} (h : B1 W B t p) : B < W.heap.size := (Array.getElem?_eq_some_iff.1 h).1
theorem B1.c0 {W : World} {B : Nat} {t : TypeId} {p : Value} (h : B1 W B t p) : W.cell? ⟨B, 0, none⟩ = some p := by simp [World.cell?, show W.heap[B]? = _ from h]
theorem B1.f0 {W : World} {B : Nat} {t : TypeId} {p : Value} (h : B1 W B t p) : W.frozen? ⟨B, 0, none⟩ = false := by simp [World.frozen?, show W.heap[B]? = _ from h]
theorem B1.new (W : World) (t : TypeId) (p : Value) : B1 (W.alloc (.cells #[p] t)) W.heap.size t p := World.alloc_heap_new W _
theorem B1.ext {W : World} {B : Nat} {t : TypeId} {p : Value} (h : B1 W B t p) (x : Ext W) : B1 x.u B t p := (x.h.below.block B h.lt).trans h
theorem B1.alloc {W : World} {B : Nat} {t : TypeId} {p : Value} (h : B1 W B t p) (o : Obj) : B1 (W.alloc o) B t p := (World.grownBy_alloc W o none).block B h.lt (by simp) |>.trans h
theorem B1.other {W : World} {B B' o : Nat} {t : TypeId} {p : Value} (h : B1 W B t p) (hne : B ≠ B') (v : Value) : B1 (W.setCell ⟨B', o, none⟩ v) B t p := by
  unfold B1 at *
  rw [← h]
  show (W.heap.modify B' _)[B]? = _
  rw [Array.getElem?_modify, if_neg (fun e => hne e.symm)]
theorem B1.set {W : World} {B : Nat} {t : TypeId} {p : Value} (h : B1 W B t p) (p' : Value) : B1 (W.setCell ⟨B, 0, none⟩ p') B t p' := by
  unfold B1 at *
  simp only [World.setCell, Array.getElem?_modify, if_pos, h, Option.map_some]
  rfl
theorem B1.kept {W W' : World} {row : Option Nat} {B : Nat} {t : TypeId} {p : Value} (h : B1 W B t p) (hg : W.grownBy W' row) (hr : ∀ r, row = some r → ∃ o : Obj, W.heap[r]? = some o ∧ o.isCells = false) : B1 W' B t p :=
  (hg.block B h.lt (fun e' => by obtain ⟨o, ho, hc⟩ := hr B e'.symm; rw [show W.heap[B]? = _ from h] at ho; cases ho; cases hc)).trans h
namespace Sm
/-- Terms: whole numbers that sixty-four of make no sum too great, and whether one was clamped. -/
structure Tm where
  z : Int
  b : Bool
  lo : -83076749736557242056487941267521536 ≤ z
  up : z ≤ 83076749736557242056487941267521536
def sm : List Tm → Int := List.foldl (fun s x => s + x.z) 0
theorem sm_snoc (l : List Tm) (x : Tm) : sm (l ++ [x]) = sm l + x.z := by simp [sm]
def an : List Tm → Bool := List.foldl (fun s x => s || x.b) false
theorem an_snoc (l : List Tm) (x : Tm) : an (l ++ [x]) = (an l || x.b) := by simp [an]
/-- What has come when k rounds are over. -/
def upto {α : Type} (f : Nat → α) (k : Nat) : List α := (List.range k).map f
theorem upto_succ {α : Type} (f : Nat → α) (k : Nat) : upto f (k + 1) = upto f k ++ [f k] := by simp [upto, List.range_succ]
theorem upto_length {α : Type} (f : Nat → α) (k : Nat) : (upto f k).length = k := by simp [upto]
theorem counted_c (n K : Nat) (hK : K = min n 64) (w : World) :
    Calls Try.prog 99 #[.int .i64 n] w fun e w' => e = .returned (.int .i64 K) ∧ w' = w := by
  have hmin : ∀ (ts : Array TypeId) (t : TypeId) (W : World), (Builtin.min_ ts t #[.int .i64 (n : Int), .int .i64 64]).run Try.prog W = .ok (.int .i64 (K : Int)) W := fun ts t W => by
    simp [Builtin.min_, Builtin.min2]
    omega
  clear hK
  go_enter Try.func99, Try.ntmps99
  go_wp2
  go_ret
  exact ⟨rfl, rfl⟩
set_option maxRecDepth 100000 in
set_option maxHeartbeats 2000000 in
/-- The terms that a function makes of the places, in their order: 'Rd': all that is read lies in place. -/
theorem termsW_stops {α : Type} (n : Nat) (hn : 1 ≤ n) (p q : α → Int) (r : α → Bool) (f : Nat → α) (L m : Nat) (hL : L ≤ 9223372036854775807) (hm : Hid (m = min L 64)) (g : Nat) (eg : ∀ args w, (callFunc g args).run Try.prog w = .ok (.enter g args) w) (lbg : Array Value) (Bn Bt : Nat) (w : World)
    (Rd : World → Prop) (Kp : World → World → Prop) (hR : Rd w) (hRm : ∀ {W W' : World}, Rd W → Mr W W' → Rd W') (hRk : ∀ {W W' : World}, Rd W → Kp W W' → Rd W')
    (hcn : ∀ {W : World}, Rd W → W.cell? ⟨Bn, 0, none⟩ = some (.int .i64 L)) (hct : ∀ {W : World}, Rd W → W.cell? ⟨Bt, 0, none⟩ = some (.func (.func g) #[] lbg))
    (hg : ∀ (i : Nat) (W : World), i < m → Rd W → Calls Try.prog g (#[.int .i64 i] ++ lbg) W fun e w' => e = .returned (.tuple #[.agg #[.int .i64 (p (f i)), .int .i64 (q (f i))], .bool (r (f i))]) ∧ ∃ x : Ext W, w' = x.u) :
    SeqStopsK Fence.wide n Try.prog 98 #[.pointer (some ⟨Bn, 0, none⟩), .pointer (some ⟨Bt, 0, none⟩)] (fun x => #[.agg #[.int .i64 (p x), .int .i64 (q x)], .bool (r x)]) Kp (fun ys => ys = upto f m) (fun _ => True) m w := fun l J Jx W hW hJ hJx hY h0 => by
  have hRW : Rd W := hRm hR ⟨hW⟩
  have hcn' := hcn hRW
  refine callsIn_of_wp Try.func98 rfl trivial ?_ rfl
  simp only [Try.ntmps98, List.size_toArray, List.length_cons, List.length_nil, Nat.reduceAdd, Nat.reduceSub, Array.replicate_succ, Array.replicate_zero, List.push_toArray, List.append_toArray, List.nil_append, List.cons_append]
  gi_wp2_with (refine ⟨trivial, ?_⟩; gi_at_call 99; refine (callsIn_wide.2 (counted_c L m hm.out _)).mono ?_; rintro e w' ⟨rfl, rfl⟩)
  have hm64 : m ≤ 64 := by have := hm.out; omega
  clear hcn'
  gi_loopw [9] (fun i wr => ∃ k : Nat, k ≤ m ∧ i = .int .i64 k ∧ J (upto f k) wr ∧ Rd wr)
    (fun i _ => m - (intOf i).toNat)
  case atStart => exact ⟨0, Nat.zero_le _, rfl, h0, hRW⟩
  case round =>
    obtain ⟨k, hk, rfl, hJs, hRr⟩ := hrel
    by_cases hlt : k < m
    · have hct' := hct hRr
      have hcall := hg k wr hlt hRr
      have hRm' : ∀ {W W' : World}, Rd W → Mr W W' → Rd W' := hRm
      clear hg hcn hct
      gi_wp2_with (refine ⟨trivial, ?_⟩; gi_at_fn g; refine (callsIn_wide.2 hcall).mono ?_; rintro e w' ⟨rfl, x, rfl⟩; have hMr : Mr wr (x.u.alloc (.cells #[.int .i64 (p (f k)), .int .i64 (q (f k))] 75)) := (by with_reducible apply Mr.alloc; exact x.h); have hJ2 := hJ _ _ _ none hJs hMr.gb (fun r e => by cases e); obtain ⟨fn, tmps, assign, body, hy, hR2⟩ := hY _ (f k) _ hJ2 (by rw [upto_length]; exact hlt))
      refine hR2.mono ?_
      rintro e W3 (⟨rfl, hJ3, hk3⟩ | ⟨rfl, hJx3⟩)
      · gi_wp2
        go_roundw
        case rel => exact ⟨k + 1, by omega, by simp, by rw [upto_succ]; exact hJ3, hRk (hRm' hRr hMr) hk3⟩
        case measure => simp [intOf]; omega
      · gi_wp2
        refine bodyPost_ret (results_none rfl _ _ _) rfl ?_
        exact ⟨⟨_, rfl⟩, .inr ⟨_, trivial, hJx3⟩⟩
    · obtain rfl : k = m := by omega
      gi_wp2
      go_end0
      exact ⟨⟨_, rfl⟩, .inl ⟨_, rfl, hJs⟩⟩
theorem sm_upto (f : Nat → Tm) (m : Nat) : sm (upto f m) = ws (fun j => (f j).z) m := by
  induction m with
  | zero => rfl
  | succ m ih => rw [upto_succ, sm_snoc, ih]; rfl
theorem sm_bd (l : List Tm) : -(l.length * 83076749736557242056487941267521536) ≤ sm l ∧ sm l ≤ l.length * 83076749736557242056487941267521536 := by
  have : ∀ (l : List Tm), -(l.length * 83076749736557242056487941267521536) ≤ sm l.reverse ∧ sm l.reverse ≤ l.length * 83076749736557242056487941267521536 := by
    intro l
    induction l with
    | nil => simp [sm]
    | cons x l ih =>
      rw [List.reverse_cons, sm_snoc, List.length_cons]
      have := x.lo; have := x.up
      omega
  have h := this l.reverse
  rwa [List.reverse_reverse, List.length_reverse] at h
theorem sm_inr (l : List Tm) (h : l.length ≤ 64) : inr (sm l) = true := by
  have := sm_bd l
  rw [inr_iff]; omega
abbrev encT (x : Tm) : Array Value := #[.agg #[.int .i64 (hi x.z), .int .i64 (lo x.z)], .bool x.b]
set_option maxRecDepth 100000 in
set_option maxHeartbeats 2000000 in
theorem exact_c (gf : Nat) (lb : Array Value) (eg : ∀ args w, (callFunc gf args).run Try.prog w = .ok (.enter gf args) w) (f : Nat → Tm) (m : Nat) (hm : m ≤ 64) (w : World)
    (hseq : SeqStopsK Fence.wide 4 Try.prog gf lb encT (Below w.heap.size) (fun ys => ys = upto f m) (fun _ => True) m w) :
    Calls Try.prog 76 #[.func (.func gf) #[] lb] w fun e w' => e = .returned (.tuple #[.agg #[.int .i64 (hi (ws (fun j => (f j).z) m)), .int .i64 (lo (ws (fun j => (f j).z) m))], .bool (an (upto f m))]) ∧ ∃ x : Ext w, w' = x.u := by
  refine (callsIn_wide (n := 5)).1 ?_
  refine callsIn_of_wp_marks Try.func76 rfl trivial ?_ rfl
  simp only [Try.ntmps76, List.size_toArray, List.length_cons, List.length_nil, Nat.reduceAdd, Nat.reduceSub, Array.replicate_succ, Array.replicate_zero, List.push_toArray, List.append_toArray, List.nil_append, List.cons_append]
  gi_wp2
  have hB0 : Below w.heap.size w (((w.alloc (.cells #[.int .i64 0, .int .i64 0] 75)).alloc (.cells #[.int .i64 0, .int .i64 0] 75)).alloc (.cells #[.bool false] 4)) := (((Below.refl _ w).alloc (Nat.le_refl _) _).alloc (by simp) _).alloc (by simp; omega) _
  have b1 := ((Bk.new w 75 (.int .i64 0) (.int .i64 0)).alloc (.cells #[.int .i64 0, .int .i64 0] 75)).alloc (.cells #[.bool false] 4)
  have b2 := (Bk.new (w.alloc (.cells #[.int .i64 0, .int .i64 0] 75)) 75 (.int .i64 0) (.int .i64 0)).alloc (.cells #[.bool false] 4)
  have b3 := B1.new ((w.alloc (.cells #[.int .i64 0, .int .i64 0] 75)).alloc (.cells #[.int .i64 0, .int .i64 0] 75)) 4 (.bool false)
  have hsz : (((w.alloc (.cells #[.int .i64 0, .int .i64 0] 75)).alloc (.cells #[.int .i64 0, .int .i64 0] 75)).alloc (.cells #[.bool false] 4)).heap.size = w.heap.size + 3 := by simp
  rw [World.size_alloc] at b2
  rw [World.size_alloc, World.size_alloc] at b3
  obtain ⟨W0, hW0⟩ : ∃ W0, (((w.alloc (.cells #[.int .i64 0, .int .i64 0] 75)).alloc (.cells #[.int .i64 0, .int .i64 0] 75)).alloc (.cells #[.bool false] 4)) = W0 := ⟨_, rfl⟩
  rw [hW0] at b1 b2 b3 hB0 hsz ⊢
  clear hW0
  refine wpIn_rangeFunc_ownH rfl (by omega) (gf := gf) (lb := lb) rfl trivial eg hseq belowK_t (belowK_b (by omega)) hB0 (fun _ => rfl)
    (fun pre W => (Bk W (w.heap.size + 1) 75 (.int .i64 (hi (sm pre))) (.int .i64 (lo (sm pre))) ∧ Bk W w.heap.size 75 (.int .i64 0) (.int .i64 0) ∧ B1 W (w.heap.size + 1 + 1) 4 (.bool (an pre))) ∧ Below w.heap.size w W)
    (fun _ _ _ => False)
    (OwnFrom.and (Own.from (fun s A B row hs hg hr => ⟨hs.1.kept hg hr, hs.2.1.kept hg hr, hs.2.2.kept hg hr⟩) _) (ownFrom_below (Nat.le_refl _) (by omega)))
    (fun _ _ _ _ _ hs _ _ => hs)
    ⟨⟨b2, b1, b3⟩, hB0⟩
    (fun x a' W => ∃ Bx, w.heap.size + 3 ≤ Bx ∧ Bk W Bx 75 (.int .i64 (hi x.z)) (.int .i64 (lo x.z)) ∧ a' = { tmps := #[.func (.func gf) #[] lb, undef, .pointer (some ⟨w.heap.size, 0, none⟩), .bool false, .pointer (some ⟨w.heap.size + 1, 0, none⟩), .pointer (some ⟨w.heap.size + 1 + 1, 0, none⟩), .pointer (some ⟨Bx, 0, none⟩), .bool x.b, .func (.func gf) #[] lb, .agg #[.int .i64 (hi x.z), .int .i64 (lo x.z)], .bool x.b, undef, undef, undef, undef, undef, undef, undef, undef, undef, undef, undef, undef], defers := [] })
    (fun x a' s A B row hs hg hr => by
      obtain ⟨Bx, h1, h2, h3⟩ := hs
      exact ⟨Bx, h1, h2.kept hg (fun r e => (hr r e).2), h3⟩)
    ?assign ?body ?done ?stop
  case assign =>
    rintro l pre x W K ⟨⟨c1, c2, c3⟩, hB⟩ hK
    gi_wp2
    exact hK _ _ ((KeepsOthers.alloc _ _).from _) ((Below.refl _ W).alloc hB.size _) ⟨⟨c1.alloc _, c2.alloc _, c3.alloc _⟩, hB.alloc hB.size _⟩ ⟨W.heap.size, c3.lt, Bk.new W _ _ _, rfl⟩
  case body =>
    rintro l pre x a' W hl ⟨r, hr⟩ ⟨⟨c1, c2, c4⟩, hB⟩ ⟨Bx, hBx, c3, rfl⟩ hlt
    have hi1 := sm_inr pre (by omega)
    have hi2 : inr (sm pre + x.z) = true := by
      have := sm_inr (pre ++ [x]) (by simp; omega)
      rwa [sm_snoc] at this
    have hi3 : inr x.z = true := by have := x.lo; have := x.up; rw [inr_iff]; omega
    have v1 := vw_hl hi1
    have v2 := vw_hl hi3
    have v3 := cut_of hi2
    have hS : Hid (sm (pre ++ [x]) = sm pre + x.z) := sm_snoc pre x
    have hA : Hid (an (pre ++ [x]) = (an pre || x.b)) := an_snoc pre x
    have k1 := c1.c0
    have k2 := c1.c1
    have k3 := c3.c0
    have k4 := c3.c1
    have k5 := c1.f0
    have k6 := c1.f1
    have k7 := c1.lt
    have k8 := c3.lt
    have k9 := c4.c0
    have k10 := c4.f0
    have k11 := c4.lt
    generalize hZ : sm pre + x.z = Z at *
    clear hi1 hi2 hi3
    have hfin : ∀ (y : Ext W) (v : Bool) (act : Act), v = (an pre || x.b) → ownPostG W0.heap.size (Below w.heap.size) (fun pre W => (Bk W (w.heap.size + 1) 75 (.int .i64 (hi (sm pre))) (.int .i64 (lo (sm pre))) ∧ Bk W w.heap.size 75 (.int .i64 0) (.int .i64 0) ∧ B1 W (w.heap.size + 1 + 1) 4 (.bool (an pre))) ∧ Below w.heap.size w W) (fun _ _ _ => False) (pre ++ [x]) W .normal act (((y.set ⟨w.heap.size + 1, 0, none⟩ (Value.int IntKind.i64 (hi Z))).set ⟨w.heap.size + 1, 1, none⟩ (Value.int IntKind.i64 (lo Z))).u.setCell ⟨w.heap.size + 1 + 1, 0, none⟩ (.bool v)) := fun y v act hv => by
      have hBW : Below w.heap.size W (((y.set ⟨w.heap.size + 1, 0, none⟩ (Value.int IntKind.i64 (hi Z))).set ⟨w.heap.size + 1, 1, none⟩ (Value.int IntKind.i64 (lo Z))).u.setCell ⟨w.heap.size + 1 + 1, 0, none⟩ (.bool v)) :=
        (((y.h.below.mono hB.size).setCell (p := ⟨w.heap.size + 1, 0, none⟩) (by simp) _).setCell (p := ⟨w.heap.size + 1, 1, none⟩) (by simp) _).setCell (p := ⟨w.heap.size + 1 + 1, 0, none⟩) (by simp; omega) _
      exact ⟨(((y.h.keeps.trans (KeepsOthers.setCell _ _ _)).trans (KeepsOthers.setCell _ _ _)).trans (KeepsOthers.setCell _ _ _)).from _, hBW, ⟨by rw [hS.out]; exact ((c1.ext y).set _ _).other (by omega) _, (((c2.ext y).other (by omega) _).other (by omega) _).other (by omega) _, by rw [hA.out, ← hv]; exact (((c4.ext y).other (by omega) _).other (by omega) _).set _⟩, hB.trans hBW⟩
    generalize hAA : an pre = A at *
    cases A
    all_goals
      gi_wp2_with (refine ⟨trivial, ?_⟩; gi_at_call 86; refine (CallsIn.inRound l (callsIn_wide.2 (wadd_c _ _ _ _ _))).mono ?_; rintro e w' ⟨rfl, y, rfl⟩)
      exact hfin _ _ _ (by simp)
  case done =>
    rintro D ys W hD rfl ⟨⟨c1, c2, c3⟩, hB⟩ hK
    have k1 := c1.c0
    have k2 := c1.c1
    have k5 := c2.f0
    have k6 := c2.f1
    have k7 := c2.c0
    have k8 := c2.c1
    have k9 := c3.c0
    have hD' : ∀ X : World, X.heap[D]? = some (Obj.deferred (some [])) → X.drew.heap[D]? = some (Obj.deferred (some [])) := fun X h => by rw [drew_heap]; exact h
    gi_wp2
    gi_region
    gi_wp2
    have hK' := hD' _ (((KeepsOthers.setCell W ⟨w.heap.size, 0, none⟩ (.int .i64 (hi (sm (upto f m))))).trans (KeepsOthers.setCell _ ⟨w.heap.size, 1, none⟩ (.int .i64 (lo (sm (upto f m)))))).same D _ hK rfl)
    have c4 := (c2.set (.int .i64 (hi (sm (upto f m)))) (.int .i64 (lo (sm (upto f m))))).drew.kept (grownBy_putObj' _ D (.deferred none)) (fun r e => by cases e; exact ⟨_, hK', rfl⟩)
    have q0 := c4.c0
    have q1 := c4.c1
    refine ⟨by simp, .inl ⟨_, _, rfl, run_takeDeferred hK', ?_⟩⟩
    refine ⟨.tuple #[.agg #[.int .i64 (hi (sm (upto f m))), .int .i64 (lo (sm (upto f m)))], .bool (an (upto f m))], by simp [results, Try.results76, go_sem, q0, q1], by rw [sm_upto], Mr.mk' ⟨?_⟩⟩
    exact (Mr.drew ⟨(hB.setCell (p := ⟨w.heap.size, 0, none⟩) (Nat.le_refl _) _).setCell (p := ⟨w.heap.size, 1, none⟩) (Nat.le_refl _) _⟩).below.trans (belowK_b (w := w) (Nat.le_refl _) _ D _ _ (by omega) hK' rfl rfl)
  case stop =>
    rintro D c pre W _ _ h _
    exact h.elim
end Sm
end Go.Proofs.Ytpammdogkkipbaa
