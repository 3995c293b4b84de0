/- For every two lists of ints the law SolveAlone answers true: where numbers stand alone they are divided: a matrix of a list where row and column are one, and 0 else, is made of itself, and what solves it is each by each. No condition. -/
import Derived.Test.YtpammdogkkipbaaRows
import Derived.WalkKit
import Derived.ProofKit
import Derived.OpenShut
import Derived.ShutString
import Derived.ChangeOld
import Derived.Below
import Derived.Test.YtpammdogkkipbaaMatR
import Derived.Test.YtpammdogkkipbaaSolveC2
import Derived.Test.YtpammdogkkipbaaMatC3
import Derived.Test.YtpammdogkkipbaaRefC20
namespace Go.Proofs.Ytpammdogkkipbaa.solveAlone
open Go.ChangeShapes Go.WideShapes Go.ChangeAt Go.RowKit
set_option linter.unusedVariables false
theorem own : ownKnob Try.prog.godebug = none := by kernel_rfl
theorem laidOut : laidOutB Try.prog = true := by kernel_rfl

open Go.Proofs.Ytpammdogkkipbaa.Fx Go.Proofs.Ytpammdogkkipbaa.Sl Go.Proofs.Ytpammdogkkipbaa.Sm Go.Proofs.Ytpammdogkkipbaa.Ma Go.Proofs.Ytpammdogkkipbaa.Sv Go.Proofs.Ytpammdogkkipbaa.Sc
attribute [local go_sem] Ext.cell Ext.froz Ext.lt Ext.lt1 Ext.lt2 Ext.lt3 Ext.all Ext.set_u drew_heap setCell_size Ext.set_size
attribute [-go_sem] run_min_int2
/-- That a list of integers lies in another block than what is gathered in u. -/
def Ap (v u : Value) : Prop := ∀ b o n c, v = .slice (some ⟨b, o, none⟩) n c → u.ownBlock ≠ some b
/-- Rows, and a list of integers beside them, both being gathered. -/
def Tw (w W : World) (a u : Value) (k m : Nat) (F : Nat → List Int) (G : Nat → Int) : Prop := ∃ vals : List Value, W.ownsRow w.heap.size 23 1 a k vals ∧ (∀ i, i < k → Rw W (vals.getD i undef) (F i) ∧ Ap (vals.getD i undef) u) ∧ W.ownsRow w.heap.size 3 1 u m ((Ma.mk G m).map (Value.int .i64))
theorem Tw.nil (w W : World) (F : Nat → List Int) (G : Nat → Int) : Tw w W (.slice none 0 0) (.slice none 0 0) 0 0 F G :=
  ⟨[], World.ownsRow_nil _ _ _ _, fun i hi => by omega, World.ownsRow_nil _ _ _ _⟩
theorem Tw.mr {w W W' : World} {a u : Value} {k m : Nat} {F : Nat → List Int} {G : Nat → Int} (h : Tw w W a u k m F G) (hm : Mr W W') : Tw w W' a u k m F G := by
  obtain ⟨vals, h1, h2, h3⟩ := h
  exact ⟨vals, Ma.owns_mr h1 hm, fun i hi => ⟨(h2 i hi).1.mr hm, (h2 i hi).2⟩, Ma.owns_mr h3 hm⟩
theorem owns_far {W W' : World} {base e e' s s' n m : Nat} {v u : Value} {xs ys : List Value} (h : W.ownsRow base e s v n xs) (g : W.ownsRow base e' s' u m ys) (hne : e ≠ e') (hg : W.grownBy W' u.ownBlock) : W'.ownsRow base e s v n xs := by
  obtain ⟨h1, h2 | ⟨b, cap, cur, e1, hb, hc, hr⟩⟩ := h
  · exact ⟨h1, .inl h2⟩
  · refine ⟨h1, .inr ⟨b, cap, cur, e1, hb, ?_, hr⟩⟩
    rw [hg.block b (Array.getElem?_eq_some_iff.1 hc).1 (fun e'' => ?_)]
    · exact hc
    · obtain ⟨-, ⟨rfl, -⟩ | ⟨b', cap', cur', rfl, -, hc', -⟩⟩ := g
      · cases e''
      · simp only [Value.ownBlock, Option.some.injEq] at e''
        subst e''
        rw [hc] at hc'
        simp only [Option.some.injEq, Obj.cells.injEq] at hc'
        exact hne hc'.2.1
theorem Rw.far {W W' : World} {v u : Value} {l : List Int} (h : Rw W v l) (ha : Ap v u) (hg : W.grownBy W' u.ownBlock) : Rw W' v l := by
  obtain ⟨ra, rc, e, hI, ht⟩ := h
  have key : ∀ b o, ra = some ⟨b, o, none⟩ → W'.heap[b]? = W.heap[b]? := fun b o hb => by
    obtain ⟨cs, fz, hc⟩ := ht b o hb
    exact hg.block b (Array.getElem?_eq_some_iff.1 hc).1 (fun e' => ha b o _ _ (by rw [e, hb]) e'.symm)
  refine ⟨ra, rc, e, is_block hI hg.size key, fun b o hb => ?_⟩
  obtain ⟨cs, fz, hc⟩ := ht b o hb
  exact ⟨cs, fz, by rw [key b o hb]; exact hc⟩
theorem Ap.next {W : World} {v u u' : Value} {l : List Int} (h : Rw W v l) (ha : Ap v u) (hd : u'.ownBlock = u.ownBlock ∨ u'.ownBlock = some W.heap.size) : Ap v u' := fun b o n c e => by
  rcases hd with hd | hd
  · rw [hd]; exact ha b o n c e
  · rw [hd]
    obtain ⟨ra, rc, e', -, ht⟩ := h
    rw [e'] at e
    simp only [Value.slice.injEq] at e
    obtain ⟨cs, fz, hc⟩ := ht b o e.1
    have := (Array.getElem?_eq_some_iff.1 hc).1
    intro g
    simp only [Option.some.injEq] at g
    omega
theorem tw_push {w W W' : World} {a a' u row : Value} {k m : Nat} {F : Nat → List Int} {G : Nat → Int} {vals : List Value} (h1 : W.ownsRow w.heap.size 23 1 a k vals) (h2 : ∀ i, i < k → Rw W (vals.getD i undef) (F i) ∧ Ap (vals.getD i undef) u) (h3 : W.ownsRow w.heap.size 3 1 u m ((Ma.mk G m).map (Value.int .i64))) (hr : Rw W row (F k)) (ha : Ap row u) (ho : W'.ownsRow w.heap.size 23 1 a' (k + 1) (vals ++ [row])) (hg : W.grownBy W' a.ownBlock) : Tw w W' a' u (k + 1) m F G := by
  have hne : (23 : Nat) ≠ 3 := by decide
  refine ⟨vals ++ [row], ho, fun i hi => ?_, owns_far h3 h1 (fun e => hne e.symm) hg⟩
  have hl : vals.length = k := by have := h1.1; omega
  rw [List.getD_eq_getElem?_getD]
  rcases Nat.lt_or_ge i k with g | g
  · have := h2 i g
    rw [List.getD_eq_getElem?_getD] at this
    rw [List.getElem?_append_left (by omega)]
    exact ⟨this.1.grown h1 hg, this.2⟩
  · obtain rfl : i = k := by omega
    rw [List.getElem?_append_right (by omega), hl, Nat.sub_self]
    exact ⟨hr.grown h1 hg, ha⟩
theorem tw_want {w W W' : World} {a u u' : Value} {k m : Nat} {F : Nat → List Int} {G : Nat → Int} (h : Tw w W a u k m F G) (ho : W'.ownsRow w.heap.size 3 1 u' (m + 1) ((Ma.mk G m).map (Value.int .i64) ++ [.int .i64 (G m)])) (hg : W.grownBy W' u.ownBlock) (hd : u'.ownBlock = u.ownBlock ∨ u'.ownBlock = some W.heap.size) : Tw w W' a u' k (m + 1) F G := by
  obtain ⟨vals, h1, h2, h3⟩ := h
  refine ⟨vals, owns_far h1 h3 (by decide) hg, fun i hi => ⟨Rw.far (h2 i hi).1 (h2 i hi).2 hg, Ap.next (h2 i hi).1 (h2 i hi).2 hd⟩, ?_⟩
  have e : Ma.mk G (m + 1) = Ma.mk G m ++ [G m] := by unfold Ma.mk; rw [List.range_succ, List.map_append]; rfl
  rw [e, List.map_append]
  exact ho
def dR (D : Nat → Int) (n i : Nat) : List Int := Ma.mk (fun j => if j = i then D i else 0) n
/-- Whether the first numbers can be divided by. -/
def gd (B D : Nat → Int) : Nat → Bool
  | 0 => true
  | k + 1 => gd B D k && !qb (B k) (D k) && decide (1 ≤ D k)
theorem gd_iff (B D : Nat → Int) (n : Nat) : gd B D n = true ↔ ∀ i, i < n → qb (B i) (D i) = false ∧ 1 ≤ D i := by
  induction n with
  | zero => exact ⟨fun _ i hi => by omega, fun _ => rfl⟩
  | succ n ih =>
    unfold gd
    rw [Bool.and_eq_true, Bool.and_eq_true, ih, Bool.not_eq_true', decide_eq_true_eq]
    constructor
    · rintro ⟨⟨h1, h2⟩, h3⟩ i hi
      by_cases e : i = n
      · subst e; exact ⟨h2, h3⟩
      · exact h1 i (by omega)
    · intro h
      exact ⟨⟨fun i hi => h i (by omega), (h n (by omega)).1⟩, (h n (by omega)).2⟩
theorem qb_co {a b : Int} (h : qb a b = false) : co b = false := by
  unfold qb at h
  split at h
  · cases h
  · rw [Bool.or_eq_false_iff] at h; exact h.2
theorem alone_all {n : Nat} {dl bl : List Int} (h1 : 1 ≤ n) (h6 : n ≤ 6) (hd : n ≤ dl.length) (hb : n ≤ bl.length) :
    solO (mkR (dR (gt dl) n) n) (bl.take n) = gd (gt bl) (gt dl) n ∧ (gd (gt bl) (gt dl) n = true → facO (mkR (dR (gt dl) n) n) = true ∧ facL (mkR (dR (gt dl) n) n) = oneL n ∧ facD (mkR (dR (gt dl) n) n) = dl.take n ∧ solX (mkR (dR (gt dl) n) n) (bl.take n) = Ma.mk (fun i => qv (gt bl i) (gt dl i)) n) ∧ (gd (gt bl) (gt dl) n = false → solX (mkR (dR (gt dl) n) n) (bl.take n) = []) := by
  have e : mkR (dR (gt dl) n) n = dg n (gt dl) := rfl
  rw [e]
  have ht : ∀ i, i < n → gt (bl.take n) i = gt bl i := fun i hi => by rw [gt_take, if_pos hi]
  obtain ⟨k1, k2⟩ := alone_sol (d := gt dl) (b := bl.take n) h1 h6 (by rw [List.length_take]; omega)
  have hg : solO (dg n (gt dl)) (bl.take n) = true ↔ gd (gt bl) (gt dl) n = true := by
    rw [k1, gd_iff]
    exact ⟨fun h i hi => by rw [← ht i hi]; exact h i hi, fun h i hi => by rw [ht i hi]; exact h i hi⟩
  have hs : solO (dg n (gt dl)) (bl.take n) = gd (gt bl) (gt dl) n := Bool.eq_iff_iff.2 hg
  refine ⟨hs, fun g => ?_, fun g => ?_⟩
  · have hi := (gd_iff _ _ _).1 g
    obtain ⟨f1, f2, f3⟩ := alone_fac (d := gt dl) h1 h6 (fun i h => ⟨qb_co (hi i h).1, (hi i h).2⟩)
    refine ⟨f1, f2, ?_, ?_⟩
    · rw [f3]
      refine list_eq (by rw [mk_length, List.length_take]; omega) (fun j hj => ?_)
      rw [mk_length] at hj
      rw [gt_mk, if_pos hj, gt_take, if_pos hj]
    · rw [k2 (by rw [hs]; exact g)]
      exact mk_congr (fun i hi => by rw [ht i hi])
  · unfold solX
    rw [hs, g]
    rfl
set_option maxHeartbeats 4000000 in
set_option maxRecDepth 100000 in
theorem walk (s0 : Option Addr) (n0 c0 : Nat) (z0 : List Int) (s1 : Option Addr) (n1 c1 : Nat) (z1 : List Int) (w : World) (w0 : IsRow .i64 w s0 n0 c0 z0) (w1 : IsRow .i64 w s1 n1 c1 z1) :
    Calls Try.prog 5 #[.slice s0 n0 c0, .slice s1 n1 c1] w fun e w' => e = .returned (.bool true) ∧ Below w.heap.size w w' := by
  obtain ⟨dl, eD, hD⟩ := of_row w0
  obtain ⟨bl, eB, hB⟩ := of_row w1
  clear w0 w1
  have m0 := hD.max
  have m1 := hB.max
  have k0 := hD.le
  have k1 := hB.le
  unfold maxLen at m0 m1
  obtain ⟨K, hK⟩ : ∃ K, K = min n0 n1 := ⟨_, rfl⟩
  have hmin : ∀ (ts : Array TypeId) (t : TypeId) (W : World), (Builtin.min_ ts t #[.int .i64 (n0 : Int), .int .i64 (n1 : Int)]).run Try.prog W = .ok (.int .i64 (K : Int)) W := fun ts t W => by
    simp [Builtin.min_, Builtin.min2]
    omega
  have hK0 : K ≤ n0 := by omega
  have hK1 : K ≤ n1 := by omega
  have hKc0 : K ≤ c0 := by omega
  have hKc1 : K ≤ c1 := by omega
  have h90 : n0 ≤ 9223372036854775807 := by omega
  have h91 : n1 ≤ 9223372036854775807 := by omega
  clear hK m0 m1 k0 k1
  by_cases hk1 : K < 1
  · have hk1' : (K : Int) < 1 := by omega
    go_enter Try.func5, Try.ntmps5
    go_wp2_with (first | (go_at_call 8; refine (awake10_c _).mono ?_; rintro e w' ⟨rfl, x, rfl⟩))
    go_ret; exact ⟨rfl, Mr.grown (by repeat (first | (with_reducible exact Mr.refl _) | (with_reducible assumption) | (with_reducible apply Mr.drew) | (with_reducible apply Mr.alloc) | (with_reducible apply Mr.ext) | (with_reducible refine Mr.setCell ?_ (by first | (simp; done) | (simp; omega) | omega | (refine leOf0 ?_; (repeat (first | (with_reducible exact Mr.refl _) | (with_reducible apply Mr.drew) | (with_reducible apply Mr.alloc) | (with_reducible apply Mr.ext) | (with_reducible refine Mr.setCell ?_ (by first | (simp; done) | (simp; omega) | omega) _))); done) | (refine leOf ?_; (repeat (first | (with_reducible exact Mr.refl _) | (with_reducible apply Mr.drew) | (with_reducible apply Mr.alloc) | (with_reducible apply Mr.ext) | (with_reducible refine Mr.setCell ?_ (by first | (simp; done) | (simp; omega) | omega) _))); done)) _)))⟩
  · by_cases hk6 : 6 < K
    · have hk6' : (6 : Int) < K := by omega
      have hk1' : ¬ (K : Int) < 1 := by omega
      go_enter Try.func5, Try.ntmps5
      go_wp2_with (first | (go_at_call 8; refine (awake10_c _).mono ?_; rintro e w' ⟨rfl, x, rfl⟩))
      go_ret; exact ⟨rfl, Mr.grown (by repeat (first | (with_reducible exact Mr.refl _) | (with_reducible assumption) | (with_reducible apply Mr.drew) | (with_reducible apply Mr.alloc) | (with_reducible apply Mr.ext) | (with_reducible refine Mr.setCell ?_ (by first | (simp; done) | (simp; omega) | omega | (refine leOf0 ?_; (repeat (first | (with_reducible exact Mr.refl _) | (with_reducible apply Mr.drew) | (with_reducible apply Mr.alloc) | (with_reducible apply Mr.ext) | (with_reducible refine Mr.setCell ?_ (by first | (simp; done) | (simp; omega) | omega) _))); done) | (refine leOf ?_; (repeat (first | (with_reducible exact Mr.refl _) | (with_reducible apply Mr.drew) | (with_reducible apply Mr.alloc) | (with_reducible apply Mr.ext) | (with_reducible refine Mr.setCell ?_ (by first | (simp; done) | (simp; omega) | omega) _))); done)) _)))⟩
    · have hk6' : ¬ (6 : Int) < K := by omega
      have hk1' : ¬ (K : Int) < 1 := by omega
      go_enter Try.func5, Try.ntmps5
      go_wp2_with (first | (go_at_call 8; refine (awake10_c _).mono ?_; rintro e w' ⟨rfl, x, rfl⟩))
      have hmw : Mr w x.u := (by repeat (first | (with_reducible exact Mr.refl _) | (with_reducible assumption) | (with_reducible apply Mr.drew) | (with_reducible apply Mr.alloc) | (with_reducible apply Mr.ext) | (with_reducible refine Mr.setCell ?_ (by first | (simp; done) | (simp; omega) | omega | (refine leOf0 ?_; (repeat (first | (with_reducible exact Mr.refl _) | (with_reducible apply Mr.drew) | (with_reducible apply Mr.alloc) | (with_reducible apply Mr.ext) | (with_reducible refine Mr.setCell ?_ (by first | (simp; done) | (simp; omega) | omega) _))); done) | (refine leOf ?_; (repeat (first | (with_reducible exact Mr.refl _) | (with_reducible apply Mr.drew) | (with_reducible apply Mr.alloc) | (with_reducible apply Mr.ext) | (with_reducible refine Mr.setCell ?_ (by first | (simp; done) | (simp; omega) | omega) _))); done)) _)))
      obtain ⟨i0, hi, hz0, hz1, hz2⟩ := info_parts infoI
      obtain ⟨i1, hj, hy0, hy1, hy2⟩ := info_parts infoS
      have hmk := run_make_row' (P := Try.prog) 23 3 (.int .i64 0) 8 Try.underlying23 infoI rfl .i64 .i64 K (by omega) (by omega)
      replace hD := hD.mr hmw
      replace hB := hB.mr hmw
      have hmw : Hid _ := hmw
      generalize x.u = W0 at *
      go_loopw [7, 8, 9, 10] (fun a u g i wr => ∃ k : Nat, k ≤ K ∧ i = .int .i64 k ∧ g = .bool (gd (gt bl) (gt dl) k) ∧ Tw W0 wr a u k k (dR (gt dl) K) (fun i => qv (gt bl i) (gt dl i)) ∧ ∃ y : Ext W0, wr = y.u) (fun _ _ _ i _ => (K - (intOf i).toNat))
      case atStart => exact ⟨0, by omega, rfl, rfl, Tw.nil _ _ _ _, Mr.mk' (Mr.refl _)⟩
      case round =>
        obtain ⟨k, hk, rfl, rfl, hTw, y, rfl⟩ := hrel
        by_cases hlt : k < K
        · have hlt' : (k : Int) < K := by omega
          obtain ⟨b1, o1, rfl, hb1, hc1⟩ := hD.num k (by omega)
          obtain ⟨b2, o2, rfl, hb2, hc2⟩ := hB.num k (by omega)
          have hbD := hD.bd k
          obtain ⟨vals, hO1, hO2, hO3⟩ := hTw
          obtain ⟨g, cap, eg, hG, hGs, hfz, hcl, hset⟩ := owns_set (owns_made y.u K (by unfold maxLen; omega)) hlt
          simp only [Value.slice.injEq, Option.some.injEq, Addr.mk.injEq] at eg
          obtain ⟨⟨rfl, -⟩, -, rfl⟩ := eg
          have hs := hset (.int .i64 (gt dl k))
          rw [← List.map_set, mk_set _ _ _ hlt] at hs
          have eW : (y.u.alloc (.cells (madeCells #[.int .i64 0] K) 3)).setCell ⟨y.u.heap.size, k, none⟩ (.int .i64 (gt dl k)) = (y.u.alloc (.cells ((madeCells #[.int .i64 0] K).setIfInBounds k (.int .i64 (gt dl k))) 3)) := by simp [go_sem]
          have hRow : Rw (y.u.alloc (.cells ((madeCells #[.int .i64 0] K).setIfInBounds k (.int .i64 (gt dl k))) 3)) (.slice (some ⟨y.u.heap.size, 0, none⟩) K K) (dR (gt dl) K k) := by rw [← eW]; exact rw_owns hs (mk_bd (fun j _ => by split <;> omega))
          have m1 : Mr y.u (y.u.alloc (.cells ((madeCells #[.int .i64 0] K).setIfInBounds k (.int .i64 (gt dl k))) 3)) := (Mr.refl _).alloc _
          have hAp : Ap (.slice (some ⟨y.u.heap.size, 0, none⟩) K K) u8 := fun b o n c e e' => by
            have := (hO3.lt b e').2
            simp only [Value.slice.injEq, Option.some.injEq, Addr.mk.injEq] at e
            omega
          have hpush : ∀ (v' : Value) (w1 : World), w1.ownsRow W0.heap.size 23 1 v' (k + 1) (vals ++ [.slice (some ⟨y.u.heap.size, 0, none⟩) K K]) → ((y.u.alloc (.cells ((madeCells #[.int .i64 0] K).setIfInBounds k (.int .i64 (gt dl k))) 3)).alloc (.cells #[.slice (some ⟨y.u.heap.size, 0, none⟩) K K] 23)).grownBy w1 u7.ownBlock → Tw W0 w1 v' u8 (k + 1) k (dR (gt dl) K) (fun i => qv (gt bl i) (gt dl i)) := fun v' w1 ho hg =>
            tw_push ((Ma.owns_mr hO1 m1).alloc _) (fun i hi => ⟨((hO2 i hi).1.mr m1).mr ((Mr.refl _).alloc _), (hO2 i hi).2⟩) ((Ma.owns_mr hO3 m1).alloc _) (hRow.mr ((Mr.refl _).alloc _)) hAp ho hg
          have hmr : ∀ (w1 : World), ((y.u.alloc (.cells ((madeCells #[.int .i64 0] K).setIfInBounds k (.int .i64 (gt dl k))) 3)).alloc (.cells #[.slice (some ⟨y.u.heap.size, 0, none⟩) K K] 23)).grownBy w1 u7.ownBlock → ∃ z' : Ext W0, w1 = z'.u := fun w1 hg => Mr.mk' (((y.h.trans m1).alloc _).grownBy hg (fun j e => (hO1.lt j e).1))
          have hsz := y.h.below.size
          have hmc : (madeCells #[.int .i64 0] K)[k]? = some (.int .i64 0) := by
            rw [← Array.getElem?_toList, made_list, List.getElem?_replicate, if_pos hlt]
          have hgd : Hid (gd (gt bl) (gt dl) (k + 1) = (gd (gt bl) (gt dl) k && !qb (gt bl k) (gt dl k) && decide (1 ≤ gt dl k))) := rfl
          have hq : Hid ((fun i => qv (gt bl i) (gt dl i)) k = qv (gt bl k) (gt dl k)) := rfl
          clear hRow eW hs hset hcl hfz hGs hG hAp
          have tk : Unit := ()
          have hpush : Hid _ := hpush
          have hmr : Hid _ := hmr
          have hD' : Hid _ := hD
          have hB' : Hid _ := hB
          clear hD hB
          generalize gt dl k = Dk at *
          generalize gt bl k = Bk at *
          generalize hg : gd (gt bl) (gt dl) k = g at *
          cases g
          · clear hg
            go_wp2_with (first | (at_builtin; (have := tk; clear this tk); refine wpList_append_own _ rfl _ _ 22 rfl W0.heap.size 23 i1 (.slice none 0 0) 1 24 Try.underlying22 hj hy0 hy1 hy2 rfl (by decide) _ _ _ rfl ((Ma.owns_mr hO1 m1).alloc _) ⟨y.u.heap.size + 1, 0, none⟩ 1 1 [.slice (some ⟨y.u.heap.size, 0, none⟩) K K] rfl rfl (cell_oneB _ _ _ (by simp)) (one_cellS _ _ _) (by unfold maxLen; omega) (by omega) (by simp; omega) ?_; intro v' w1 hown' hgrow _; have hT := hpush.out v' w1 hown' hgrow; obtain ⟨z', rfl⟩ := hmr.out w1 hgrow; clear hgrow hown'))
            refine wp_region_ext (by kernel_rfl) (by kernel_rfl) ?_
            repeat (go_big_quiet_step ((go_at_call 17; exact extCall (over_c _ _ _))))
            refine wpQuiet_nil ?_
            rintro w3 ⟨x3, rfl⟩
            have hwant : ∀ (v2 : Value) (w2 : World), w2.ownsRow W0.heap.size 3 1 v2 (k + 1) ((Ma.mk (fun i => qv (gt bl i) (gt dl i)) k).map (Value.int .i64) ++ [.int .i64 (qv Bk Dk)]) → (x3.u.alloc (.cells #[.int .i64 (qv Bk Dk)] 3)).grownBy w2 u8.ownBlock → (v2.ownBlock = u8.ownBlock ∨ v2.ownBlock = some (x3.u.alloc (.cells #[.int .i64 (qv Bk Dk)] 3)).heap.size) → Tw W0 w2 v' v2 (k + 1) (k + 1) (dR (gt dl) K) (fun i => qv (gt bl i) (gt dl i)) := fun v2 w2 ho hg hd =>
              tw_want ((hT.mr x3.h).mr ((Mr.refl _).alloc _)) (by rw [hq.out]; exact ho) hg hd
            have hU : x3.u.ownsRow W0.heap.size 3 1 u8 k ((Ma.mk (fun i => qv (gt bl i) (gt dl i)) k).map (Value.int .i64)) := by
              obtain ⟨vals2, -, -, hU⟩ := hT.mr x3.h
              exact hU
            have hwant : Hid _ := hwant
            clear hT
            go_wp2_with (first | (at_builtin; refine wpList_append_own_at _ rfl _ _ 23 rfl W0.heap.size 3 i0 (.int .i64 0) 1 8 Try.underlying23 hi hz0 hz1 hz2 rfl (by decide) _ _ _ rfl (hU.alloc _) ⟨x3.u.heap.size, 0, none⟩ 1 1 [.int .i64 (qv Bk Dk)] rfl rfl (cell_one _ _) (one_cell _) (by unfold maxLen; omega) (by omega) (by have := x3.h.below.size; have := z'.h.below.size; simp; omega) ?_; intro v2 w2 hp2 hgr2 _ hd2; have hT2 := hwant.out v2 w2 hp2 hgr2 hd2; obtain ⟨z2, rfl⟩ : ∃ z2 : Ext W0, w2 = z2.u := (Mr.mk' (((z'.h.trans x3.h).alloc _).grownBy hgr2 (fun j e => (hU.lt j e).1))); clear hgr2 hp2 hd2))
            go_roundw
            case rel => exact ⟨k + 1, by omega, by go_num, by rw [hgd.out]; simp, hT2, z2, rfl⟩
            case measure => simp [intOf]; omega
          · clear hg
            cases hqq : qb Bk Dk
            · by_cases h1 : 1 ≤ Dk
              · have h1' : decide (1 ≤ Dk) = true := by simpa using h1
                go_wp2_with (first | (at_builtin; (have := tk; clear this tk); refine wpList_append_own _ rfl _ _ 22 rfl W0.heap.size 23 i1 (.slice none 0 0) 1 24 Try.underlying22 hj hy0 hy1 hy2 rfl (by decide) _ _ _ rfl ((Ma.owns_mr hO1 m1).alloc _) ⟨y.u.heap.size + 1, 0, none⟩ 1 1 [.slice (some ⟨y.u.heap.size, 0, none⟩) K K] rfl rfl (cell_oneB _ _ _ (by simp)) (one_cellS _ _ _) (by unfold maxLen; omega) (by omega) (by simp; omega) ?_; intro v' w1 hown' hgrow _; have hT := hpush.out v' w1 hown' hgrow; obtain ⟨z', rfl⟩ := hmr.out w1 hgrow; clear hgrow hown'))
                refine wp_region_ext (by kernel_rfl) (by kernel_rfl) ?_
                repeat (go_big_quiet_step ((go_at_call 17; exact extCall (over_c _ _ _))))
                refine wpQuiet_nil ?_
                rintro w3 ⟨x3, rfl⟩
                have hwant : ∀ (v2 : Value) (w2 : World), w2.ownsRow W0.heap.size 3 1 v2 (k + 1) ((Ma.mk (fun i => qv (gt bl i) (gt dl i)) k).map (Value.int .i64) ++ [.int .i64 (qv Bk Dk)]) → (x3.u.alloc (.cells #[.int .i64 (qv Bk Dk)] 3)).grownBy w2 u8.ownBlock → (v2.ownBlock = u8.ownBlock ∨ v2.ownBlock = some (x3.u.alloc (.cells #[.int .i64 (qv Bk Dk)] 3)).heap.size) → Tw W0 w2 v' v2 (k + 1) (k + 1) (dR (gt dl) K) (fun i => qv (gt bl i) (gt dl i)) := fun v2 w2 ho hg hd =>
                  tw_want ((hT.mr x3.h).mr ((Mr.refl _).alloc _)) (by rw [hq.out]; exact ho) hg hd
                have hU : x3.u.ownsRow W0.heap.size 3 1 u8 k ((Ma.mk (fun i => qv (gt bl i) (gt dl i)) k).map (Value.int .i64)) := by
                  obtain ⟨vals2, -, -, hU⟩ := hT.mr x3.h
                  exact hU
                have hwant : Hid _ := hwant
                clear hT
                go_wp2_with (first | (at_builtin; refine wpList_append_own_at _ rfl _ _ 23 rfl W0.heap.size 3 i0 (.int .i64 0) 1 8 Try.underlying23 hi hz0 hz1 hz2 rfl (by decide) _ _ _ rfl (hU.alloc _) ⟨x3.u.heap.size, 0, none⟩ 1 1 [.int .i64 (qv Bk Dk)] rfl rfl (cell_one _ _) (one_cell _) (by unfold maxLen; omega) (by omega) (by have := x3.h.below.size; have := z'.h.below.size; simp; omega) ?_; intro v2 w2 hp2 hgr2 _ hd2; have hT2 := hwant.out v2 w2 hp2 hgr2 hd2; obtain ⟨z2, rfl⟩ : ∃ z2 : Ext W0, w2 = z2.u := (Mr.mk' (((z'.h.trans x3.h).alloc _).grownBy hgr2 (fun j e => (hU.lt j e).1))); clear hgr2 hp2 hd2))
                go_roundw
                case rel => exact ⟨k + 1, by omega, by go_num, by rw [hgd.out]; simp [hqq, h1], hT2, z2, rfl⟩
                case measure => simp [intOf]; omega
              · have h1' : decide (1 ≤ Dk) = false := by simpa using h1
                go_wp2_with (first | (at_builtin; (have := tk; clear this tk); refine wpList_append_own _ rfl _ _ 22 rfl W0.heap.size 23 i1 (.slice none 0 0) 1 24 Try.underlying22 hj hy0 hy1 hy2 rfl (by decide) _ _ _ rfl ((Ma.owns_mr hO1 m1).alloc _) ⟨y.u.heap.size + 1, 0, none⟩ 1 1 [.slice (some ⟨y.u.heap.size, 0, none⟩) K K] rfl rfl (cell_oneB _ _ _ (by simp)) (one_cellS _ _ _) (by unfold maxLen; omega) (by omega) (by simp; omega) ?_; intro v' w1 hown' hgrow _; have hT := hpush.out v' w1 hown' hgrow; obtain ⟨z', rfl⟩ := hmr.out w1 hgrow; clear hgrow hown'))
                refine wp_region_ext (by kernel_rfl) (by kernel_rfl) ?_
                repeat (go_big_quiet_step ((go_at_call 17; exact extCall (over_c _ _ _))))
                refine wpQuiet_nil ?_
                rintro w3 ⟨x3, rfl⟩
                have hwant : ∀ (v2 : Value) (w2 : World), w2.ownsRow W0.heap.size 3 1 v2 (k + 1) ((Ma.mk (fun i => qv (gt bl i) (gt dl i)) k).map (Value.int .i64) ++ [.int .i64 (qv Bk Dk)]) → (x3.u.alloc (.cells #[.int .i64 (qv Bk Dk)] 3)).grownBy w2 u8.ownBlock → (v2.ownBlock = u8.ownBlock ∨ v2.ownBlock = some (x3.u.alloc (.cells #[.int .i64 (qv Bk Dk)] 3)).heap.size) → Tw W0 w2 v' v2 (k + 1) (k + 1) (dR (gt dl) K) (fun i => qv (gt bl i) (gt dl i)) := fun v2 w2 ho hg hd =>
                  tw_want ((hT.mr x3.h).mr ((Mr.refl _).alloc _)) (by rw [hq.out]; exact ho) hg hd
                have hU : x3.u.ownsRow W0.heap.size 3 1 u8 k ((Ma.mk (fun i => qv (gt bl i) (gt dl i)) k).map (Value.int .i64)) := by
                  obtain ⟨vals2, -, -, hU⟩ := hT.mr x3.h
                  exact hU
                have hwant : Hid _ := hwant
                clear hT
                go_wp2_with (first | (at_builtin; refine wpList_append_own_at _ rfl _ _ 23 rfl W0.heap.size 3 i0 (.int .i64 0) 1 8 Try.underlying23 hi hz0 hz1 hz2 rfl (by decide) _ _ _ rfl (hU.alloc _) ⟨x3.u.heap.size, 0, none⟩ 1 1 [.int .i64 (qv Bk Dk)] rfl rfl (cell_one _ _) (one_cell _) (by unfold maxLen; omega) (by omega) (by have := x3.h.below.size; have := z'.h.below.size; simp; omega) ?_; intro v2 w2 hp2 hgr2 _ hd2; have hT2 := hwant.out v2 w2 hp2 hgr2 hd2; obtain ⟨z2, rfl⟩ : ∃ z2 : Ext W0, w2 = z2.u := (Mr.mk' (((z'.h.trans x3.h).alloc _).grownBy hgr2 (fun j e => (hU.lt j e).1))); clear hgr2 hp2 hd2))
                go_roundw
                case rel => exact ⟨k + 1, by omega, by go_num, by rw [hgd.out]; simp [hqq, h1], hT2, z2, rfl⟩
                case measure => simp [intOf]; omega
            · skip
              go_wp2_with (first | (at_builtin; (have := tk; clear this tk); refine wpList_append_own _ rfl _ _ 22 rfl W0.heap.size 23 i1 (.slice none 0 0) 1 24 Try.underlying22 hj hy0 hy1 hy2 rfl (by decide) _ _ _ rfl ((Ma.owns_mr hO1 m1).alloc _) ⟨y.u.heap.size + 1, 0, none⟩ 1 1 [.slice (some ⟨y.u.heap.size, 0, none⟩) K K] rfl rfl (cell_oneB _ _ _ (by simp)) (one_cellS _ _ _) (by unfold maxLen; omega) (by omega) (by simp; omega) ?_; intro v' w1 hown' hgrow _; have hT := hpush.out v' w1 hown' hgrow; obtain ⟨z', rfl⟩ := hmr.out w1 hgrow; clear hgrow hown'))
              refine wp_region_ext (by kernel_rfl) (by kernel_rfl) ?_
              repeat (go_big_quiet_step ((go_at_call 17; exact extCall (over_c _ _ _))))
              refine wpQuiet_nil ?_
              rintro w3 ⟨x3, rfl⟩
              have hwant : ∀ (v2 : Value) (w2 : World), w2.ownsRow W0.heap.size 3 1 v2 (k + 1) ((Ma.mk (fun i => qv (gt bl i) (gt dl i)) k).map (Value.int .i64) ++ [.int .i64 (qv Bk Dk)]) → (x3.u.alloc (.cells #[.int .i64 (qv Bk Dk)] 3)).grownBy w2 u8.ownBlock → (v2.ownBlock = u8.ownBlock ∨ v2.ownBlock = some (x3.u.alloc (.cells #[.int .i64 (qv Bk Dk)] 3)).heap.size) → Tw W0 w2 v' v2 (k + 1) (k + 1) (dR (gt dl) K) (fun i => qv (gt bl i) (gt dl i)) := fun v2 w2 ho hg hd =>
                tw_want ((hT.mr x3.h).mr ((Mr.refl _).alloc _)) (by rw [hq.out]; exact ho) hg hd
              have hU : x3.u.ownsRow W0.heap.size 3 1 u8 k ((Ma.mk (fun i => qv (gt bl i) (gt dl i)) k).map (Value.int .i64)) := by
                obtain ⟨vals2, -, -, hU⟩ := hT.mr x3.h
                exact hU
              have hwant : Hid _ := hwant
              clear hT
              go_wp2_with (first | (at_builtin; refine wpList_append_own_at _ rfl _ _ 23 rfl W0.heap.size 3 i0 (.int .i64 0) 1 8 Try.underlying23 hi hz0 hz1 hz2 rfl (by decide) _ _ _ rfl (hU.alloc _) ⟨x3.u.heap.size, 0, none⟩ 1 1 [.int .i64 (qv Bk Dk)] rfl rfl (cell_one _ _) (one_cell _) (by unfold maxLen; omega) (by omega) (by have := x3.h.below.size; have := z'.h.below.size; simp; omega) ?_; intro v2 w2 hp2 hgr2 _ hd2; have hT2 := hwant.out v2 w2 hp2 hgr2 hd2; obtain ⟨z2, rfl⟩ : ∃ z2 : Ext W0, w2 = z2.u := (Mr.mk' (((z'.h.trans x3.h).alloc _).grownBy hgr2 (fun j e => (hU.lt j e).1))); clear hgr2 hp2 hd2))
              go_roundw
              case rel => exact ⟨k + 1, by omega, by go_num, by rw [hgd.out]; simp [hqq], hT2, z2, rfl⟩
              case measure => simp [intOf]; omega
        · obtain rfl : k = K := by omega
          obtain ⟨vals, hO1, hO2, hO3⟩ := hTw
          have hOw : Ow W0 y.u u7 k (dR (gt dl) k) := ⟨vals, hO1, fun i hi => (hO2 i hi).1⟩
          obtain ⟨aC, cC, rfl, hC⟩ := hOw.done
          obtain ⟨aW, cW, rfl, -, hW⟩ := of_owns hO3 (mk_bd (fun i _ => by have := qv_bd (gt bl i) (gt dl i); omega))
          rw [mk_length]
          obtain ⟨hsol, hyes, hno⟩ := alone_all (n := k) (dl := dl) (bl := bl) (by omega) (by omega) (by omega) (by omega)
          have eC : (mkR (dR (gt dl) k) k).length = k := mkR_length _ _
          have hBt := hB.take k
          have hDt := hD.take k
          have eBt : (bl.take k).length = k := by rw [List.length_take]; omega
          have eDt : (dl.take k).length = k := by rw [List.length_take]; omega
          have eO : (oneL (k : Int)).length = k := by rw [oneL_mat (by omega) (by omega), mat_length]
          have hmw' := hmw.out
          have j1 : Unit := ()
          clear hOw hO1 hO2 hO3 hD hB
          generalize hg : gd (gt bl) (gt dl) k = g at *
          generalize mkR (dR (gt dl) k) k = C at *
          cases g
          · have q4 := hno rfl
            clear hyes hno hg
            obtain ⟨n1', z1⟩ : ∃ n, (facL C).length = n := ⟨_, rfl⟩
            obtain ⟨n2', z2⟩ : ∃ n, (facD C).length = n := ⟨_, rfl⟩
            obtain ⟨b3', z3⟩ : ∃ n, facO C = n := ⟨_, rfl⟩
            go_wp2_with (first | (go_at_call 10; refine Calls.mono (sfactor_u (hC.mr (by repeat (first | (with_reducible exact Mr.refl _) | (with_reducible assumption) | (with_reducible apply Mr.drew) | (with_reducible apply Mr.alloc) | (with_reducible apply Mr.ext) | (with_reducible refine Mr.setCell ?_ (by first | (simp; done) | (simp; omega) | omega | (refine leOf0 ?_; (repeat (first | (with_reducible exact Mr.refl _) | (with_reducible apply Mr.drew) | (with_reducible apply Mr.alloc) | (with_reducible apply Mr.ext) | (with_reducible refine Mr.setCell ?_ (by first | (simp; done) | (simp; omega) | omega) _))); done) | (refine leOf ?_; (repeat (first | (with_reducible exact Mr.refl _) | (with_reducible apply Mr.drew) | (with_reducible apply Mr.alloc) | (with_reducible apply Mr.ext) | (with_reducible refine Mr.setCell ?_ (by first | (simp; done) | (simp; omega) | omega) _))); done)) _)))) eC) ?_; rintro e w' ⟨a1, d1, a2, d2, rfl, x, rfl, -, -⟩; rw [z1, z2, z3]) | (go_at_call 12; refine Calls.mono (ssolve_u (hC.mr (by repeat (first | (with_reducible exact Mr.refl _) | (with_reducible assumption) | (with_reducible apply Mr.drew) | (with_reducible apply Mr.alloc) | (with_reducible apply Mr.ext) | (with_reducible refine Mr.setCell ?_ (by first | (simp; done) | (simp; omega) | omega | (refine leOf0 ?_; (repeat (first | (with_reducible exact Mr.refl _) | (with_reducible apply Mr.drew) | (with_reducible apply Mr.alloc) | (with_reducible apply Mr.ext) | (with_reducible refine Mr.setCell ?_ (by first | (simp; done) | (simp; omega) | omega) _))); done) | (refine leOf ?_; (repeat (first | (with_reducible exact Mr.refl _) | (with_reducible apply Mr.drew) | (with_reducible apply Mr.alloc) | (with_reducible apply Mr.ext) | (with_reducible refine Mr.setCell ?_ (by first | (simp; done) | (simp; omega) | omega) _))); done)) _)))) eC (hBt.mr (by repeat (first | (with_reducible exact Mr.refl _) | (with_reducible assumption) | (with_reducible apply Mr.drew) | (with_reducible apply Mr.alloc) | (with_reducible apply Mr.ext) | (with_reducible refine Mr.setCell ?_ (by first | (simp; done) | (simp; omega) | omega | (refine leOf0 ?_; (repeat (first | (with_reducible exact Mr.refl _) | (with_reducible apply Mr.drew) | (with_reducible apply Mr.alloc) | (with_reducible apply Mr.ext) | (with_reducible refine Mr.setCell ?_ (by first | (simp; done) | (simp; omega) | omega) _))); done) | (refine leOf ?_; (repeat (first | (with_reducible exact Mr.refl _) | (with_reducible apply Mr.drew) | (with_reducible apply Mr.alloc) | (with_reducible apply Mr.ext) | (with_reducible refine Mr.setCell ?_ (by first | (simp; done) | (simp; omega) | omega) _))); done)) _)))) eBt) ?_; rintro e w' ⟨a5, d5, rfl, x, rfl, -⟩; rw [hsol, q4, List.length_nil]))
            go_ret; exact ⟨rfl, Mr.grown (by repeat (first | (with_reducible exact Mr.refl _) | (with_reducible assumption) | (with_reducible apply Mr.drew) | (with_reducible apply Mr.alloc) | (with_reducible apply Mr.ext) | (with_reducible refine Mr.setCell ?_ (by first | (simp; done) | (simp; omega) | omega | (refine leOf0 ?_; (repeat (first | (with_reducible exact Mr.refl _) | (with_reducible apply Mr.drew) | (with_reducible apply Mr.alloc) | (with_reducible apply Mr.ext) | (with_reducible refine Mr.setCell ?_ (by first | (simp; done) | (simp; omega) | omega) _))); done) | (refine leOf ?_; (repeat (first | (with_reducible exact Mr.refl _) | (with_reducible apply Mr.drew) | (with_reducible apply Mr.alloc) | (with_reducible apply Mr.ext) | (with_reducible refine Mr.setCell ?_ (by first | (simp; done) | (simp; omega) | omega) _))); done)) _)))⟩
          · obtain ⟨q1, q2, q3, q4⟩ := hyes rfl
            clear hyes hno hg
            go_wp2_with (first | (go_at_call 10; refine Calls.mono (sfactor_u (hC.mr (by repeat (first | (with_reducible exact Mr.refl _) | (with_reducible assumption) | (with_reducible apply Mr.drew) | (with_reducible apply Mr.alloc) | (with_reducible apply Mr.ext) | (with_reducible refine Mr.setCell ?_ (by first | (simp; done) | (simp; omega) | omega | (refine leOf0 ?_; (repeat (first | (with_reducible exact Mr.refl _) | (with_reducible apply Mr.drew) | (with_reducible apply Mr.alloc) | (with_reducible apply Mr.ext) | (with_reducible refine Mr.setCell ?_ (by first | (simp; done) | (simp; omega) | omega) _))); done) | (refine leOf ?_; (repeat (first | (with_reducible exact Mr.refl _) | (with_reducible apply Mr.drew) | (with_reducible apply Mr.alloc) | (with_reducible apply Mr.ext) | (with_reducible refine Mr.setCell ?_ (by first | (simp; done) | (simp; omega) | omega) _))); done)) _)))) eC) ?_; rintro e w' ⟨a1, d1, a2, d2, rfl, x, rfl, hF, hDd⟩; rw [q2] at hF; rw [q3] at hDd; rw [q1, q2, q3, eO, eDt]) | (go_at_call 12; refine Calls.mono (ssolve_u (hC.mr (by repeat (first | (with_reducible exact Mr.refl _) | (with_reducible assumption) | (with_reducible apply Mr.drew) | (with_reducible apply Mr.alloc) | (with_reducible apply Mr.ext) | (with_reducible refine Mr.setCell ?_ (by first | (simp; done) | (simp; omega) | omega | (refine leOf0 ?_; (repeat (first | (with_reducible exact Mr.refl _) | (with_reducible apply Mr.drew) | (with_reducible apply Mr.alloc) | (with_reducible apply Mr.ext) | (with_reducible refine Mr.setCell ?_ (by first | (simp; done) | (simp; omega) | omega) _))); done) | (refine leOf ?_; (repeat (first | (with_reducible exact Mr.refl _) | (with_reducible apply Mr.drew) | (with_reducible apply Mr.alloc) | (with_reducible apply Mr.ext) | (with_reducible refine Mr.setCell ?_ (by first | (simp; done) | (simp; omega) | omega) _))); done)) _)))) eC (hBt.mr (by repeat (first | (with_reducible exact Mr.refl _) | (with_reducible assumption) | (with_reducible apply Mr.drew) | (with_reducible apply Mr.alloc) | (with_reducible apply Mr.ext) | (with_reducible refine Mr.setCell ?_ (by first | (simp; done) | (simp; omega) | omega | (refine leOf0 ?_; (repeat (first | (with_reducible exact Mr.refl _) | (with_reducible apply Mr.drew) | (with_reducible apply Mr.alloc) | (with_reducible apply Mr.ext) | (with_reducible refine Mr.setCell ?_ (by first | (simp; done) | (simp; omega) | omega) _))); done) | (refine leOf ?_; (repeat (first | (with_reducible exact Mr.refl _) | (with_reducible apply Mr.drew) | (with_reducible apply Mr.alloc) | (with_reducible apply Mr.ext) | (with_reducible refine Mr.setCell ?_ (by first | (simp; done) | (simp; omega) | omega) _))); done)) _)))) eBt) ?_; rintro e w' ⟨a5, d5, rfl, x, rfl, hX⟩; rw [q4] at hX; rw [hsol, q4, mk_length]) | (go_at_call 18; refine Calls.mono (mone_u _ _) ?_; rintro e w' ⟨aO, cO, rfl, x, rfl, hO⟩; rw [eO]) | (go_at_call 14; refine (rsame_c _ (hF.mr (by repeat (first | (with_reducible exact Mr.refl _) | (with_reducible assumption) | (with_reducible apply Mr.drew) | (with_reducible apply Mr.alloc) | (with_reducible apply Mr.ext) | (with_reducible refine Mr.setCell ?_ (by first | (simp; done) | (simp; omega) | omega | (refine leOf0 ?_; (repeat (first | (with_reducible exact Mr.refl _) | (with_reducible apply Mr.drew) | (with_reducible apply Mr.alloc) | (with_reducible apply Mr.ext) | (with_reducible refine Mr.setCell ?_ (by first | (simp; done) | (simp; omega) | omega) _))); done) | (refine leOf ?_; (repeat (first | (with_reducible exact Mr.refl _) | (with_reducible apply Mr.drew) | (with_reducible apply Mr.alloc) | (with_reducible apply Mr.ext) | (with_reducible refine Mr.setCell ?_ (by first | (simp; done) | (simp; omega) | omega) _))); done)) _)))) eO (hO.mr (by repeat (first | (with_reducible exact Mr.refl _) | (with_reducible assumption) | (with_reducible apply Mr.drew) | (with_reducible apply Mr.alloc) | (with_reducible apply Mr.ext) | (with_reducible refine Mr.setCell ?_ (by first | (simp; done) | (simp; omega) | omega | (refine leOf0 ?_; (repeat (first | (with_reducible exact Mr.refl _) | (with_reducible apply Mr.drew) | (with_reducible apply Mr.alloc) | (with_reducible apply Mr.ext) | (with_reducible refine Mr.setCell ?_ (by first | (simp; done) | (simp; omega) | omega) _))); done) | (refine leOf ?_; (repeat (first | (with_reducible exact Mr.refl _) | (with_reducible apply Mr.drew) | (with_reducible apply Mr.alloc) | (with_reducible apply Mr.ext) | (with_reducible refine Mr.setCell ?_ (by first | (simp; done) | (simp; omega) | omega) _))); done)) _)))) eO).mono ?_; rw [decide_eq_true rfl]; rintro e w' ⟨rfl, x, rfl⟩) | (go_at_call 15; (have := j1; clear this j1); refine (rints_c _ (hDd.mr (by repeat (first | (with_reducible exact Mr.refl _) | (with_reducible assumption) | (with_reducible apply Mr.drew) | (with_reducible apply Mr.alloc) | (with_reducible apply Mr.ext) | (with_reducible refine Mr.setCell ?_ (by first | (simp; done) | (simp; omega) | omega | (refine leOf0 ?_; (repeat (first | (with_reducible exact Mr.refl _) | (with_reducible apply Mr.drew) | (with_reducible apply Mr.alloc) | (with_reducible apply Mr.ext) | (with_reducible refine Mr.setCell ?_ (by first | (simp; done) | (simp; omega) | omega) _))); done) | (refine leOf ?_; (repeat (first | (with_reducible exact Mr.refl _) | (with_reducible apply Mr.drew) | (with_reducible apply Mr.alloc) | (with_reducible apply Mr.ext) | (with_reducible refine Mr.setCell ?_ (by first | (simp; done) | (simp; omega) | omega) _))); done)) _)))) eDt (hDt.mr (by repeat (first | (with_reducible exact Mr.refl _) | (with_reducible assumption) | (with_reducible apply Mr.drew) | (with_reducible apply Mr.alloc) | (with_reducible apply Mr.ext) | (with_reducible refine Mr.setCell ?_ (by first | (simp; done) | (simp; omega) | omega | (refine leOf0 ?_; (repeat (first | (with_reducible exact Mr.refl _) | (with_reducible apply Mr.drew) | (with_reducible apply Mr.alloc) | (with_reducible apply Mr.ext) | (with_reducible refine Mr.setCell ?_ (by first | (simp; done) | (simp; omega) | omega) _))); done) | (refine leOf ?_; (repeat (first | (with_reducible exact Mr.refl _) | (with_reducible apply Mr.drew) | (with_reducible apply Mr.alloc) | (with_reducible apply Mr.ext) | (with_reducible refine Mr.setCell ?_ (by first | (simp; done) | (simp; omega) | omega) _))); done)) _)))) eDt).mono ?_; rw [decide_eq_true rfl]; rintro e w' ⟨rfl, x, rfl⟩) | (go_at_call 15; refine (rints_c _ (hX.mr (by repeat (first | (with_reducible exact Mr.refl _) | (with_reducible assumption) | (with_reducible apply Mr.drew) | (with_reducible apply Mr.alloc) | (with_reducible apply Mr.ext) | (with_reducible refine Mr.setCell ?_ (by first | (simp; done) | (simp; omega) | omega | (refine leOf0 ?_; (repeat (first | (with_reducible exact Mr.refl _) | (with_reducible apply Mr.drew) | (with_reducible apply Mr.alloc) | (with_reducible apply Mr.ext) | (with_reducible refine Mr.setCell ?_ (by first | (simp; done) | (simp; omega) | omega) _))); done) | (refine leOf ?_; (repeat (first | (with_reducible exact Mr.refl _) | (with_reducible apply Mr.drew) | (with_reducible apply Mr.alloc) | (with_reducible apply Mr.ext) | (with_reducible refine Mr.setCell ?_ (by first | (simp; done) | (simp; omega) | omega) _))); done)) _)))) (mk_length _ _) (hW.mr (by repeat (first | (with_reducible exact Mr.refl _) | (with_reducible assumption) | (with_reducible apply Mr.drew) | (with_reducible apply Mr.alloc) | (with_reducible apply Mr.ext) | (with_reducible refine Mr.setCell ?_ (by first | (simp; done) | (simp; omega) | omega | (refine leOf0 ?_; (repeat (first | (with_reducible exact Mr.refl _) | (with_reducible apply Mr.drew) | (with_reducible apply Mr.alloc) | (with_reducible apply Mr.ext) | (with_reducible refine Mr.setCell ?_ (by first | (simp; done) | (simp; omega) | omega) _))); done) | (refine leOf ?_; (repeat (first | (with_reducible exact Mr.refl _) | (with_reducible apply Mr.drew) | (with_reducible apply Mr.alloc) | (with_reducible apply Mr.ext) | (with_reducible refine Mr.setCell ?_ (by first | (simp; done) | (simp; omega) | omega) _))); done)) _)))) (mk_length _ _)).mono ?_; rw [decide_eq_true rfl]; rintro e w' ⟨rfl, x, rfl⟩))
            go_ret; exact ⟨rfl, Mr.grown (by repeat (first | (with_reducible exact Mr.refl _) | (with_reducible assumption) | (with_reducible apply Mr.drew) | (with_reducible apply Mr.alloc) | (with_reducible apply Mr.ext) | (with_reducible refine Mr.setCell ?_ (by first | (simp; done) | (simp; omega) | omega | (refine leOf0 ?_; (repeat (first | (with_reducible exact Mr.refl _) | (with_reducible apply Mr.drew) | (with_reducible apply Mr.alloc) | (with_reducible apply Mr.ext) | (with_reducible refine Mr.setCell ?_ (by first | (simp; done) | (simp; omega) | omega) _))); done) | (refine leOf ?_; (repeat (first | (with_reducible exact Mr.refl _) | (with_reducible apply Mr.drew) | (with_reducible apply Mr.alloc) | (with_reducible apply Mr.ext) | (with_reducible refine Mr.setCell ?_ (by first | (simp; done) | (simp; omega) | omega) _))); done)) _)))⟩

set_option maxRecDepth 100000 in
theorem lifted (os : Os) (started : os.Started) (H : Type) (enc : TypeId × Value → H) :
    ReturnsInHanded {} Try.checked os 5 .any (Rows.solveAloneSpec.pre6 enc Try.prog Try.f5 Rows.solveAloneRow.domain false) (Rows.solveAloneSpec.post enc Try.prog Try.f5 false true false false) := by
  refine returnsInHanded_of_change (C := Try.checked) own started (by kernel_rfl) Try.func5
    (ChangeSpec.witness6 (enc := enc) (C := Try.checked) false ⟨#[], #[.slice none 0 0, .slice none 0 0], []⟩ 8 (by kernel_rfl) (by kernel_rfl) (by kernel_rfl) (by kernel_rfl)) ?_
  intro W base args ds gs before hval0 hW hcnd _
  have hval : ∀ (j : Nat) t v, Try.f5.params[j]? = some t → args[j]? = some v → Value.okWide Try.prog W .any base t v := hval0
  have hW' := hW
  obtain ⟨p, q, hA0, hV, rfl, hfz, hnd⟩ := hW
  have hA : DataW.TrodAll enc Try.prog W 0 (fun _ => true) true Try.f5.params.toList args.toList ds p := hA0
  rw [Try.params5] at hA hval
  obtain ⟨v0, vs0, d0, ds0, p_0, q_0, hargs, rfl, rfl, h0, r0⟩ := trodAll_cons hA
  obtain ⟨v1, vs1, d1, ds1, p_1, q_1, rfl, rfl, rfl, h1, r1⟩ := trodAll_cons r0
  obtain ⟨rfl, rfl, rfl⟩ := trodAll_nil r1
  obtain rfl : args = #[v0, v1] := by cases args; simp_all
  obtain ⟨rfl, rfl⟩ := trodVars_none hV
  obtain ⟨s0, n0, c0, rfl⟩ := okWide_slice Try.underlying23 (hval 0 23 v0 rfl rfl)
  have k0 := h0
  have lt0 : ∀ x ∈ p_0, x.block < W.heap.size := by obtain ⟨m, hm⟩ := k0; exact DataW.trod_lt m _ _ _ hm
  obtain ⟨z0, w0⟩ : ∃ zs, IsRow .i64 W s0 n0 c0 zs := by
    obtain ⟨fuel, hf⟩ := h0
    rcases open_ints Try.underlying23 Try.underlying3 (by kernel_rfl) hf with ⟨hcs, _⟩ | ⟨x, l, c, zs, hcs, _, hl, hm, hz, _, hcell, hwz⟩
    · simp [Value.cells] at hcs
      obtain ⟨rfl, rfl, rfl⟩ := hcs
      exact ⟨[], .inl ⟨rfl, rfl, rfl, rfl⟩⟩
    · simp [Value.cells] at hcs
      obtain ⟨rfl, rfl, rfl⟩ := hcs
      exact ⟨zs, .inr ⟨_, rfl, hl, hm, by simpa using hz, hcell, hwz⟩⟩
  obtain ⟨s1, n1, c1, rfl⟩ := okWide_slice Try.underlying23 (hval 1 23 v1 rfl rfl)
  have k1 := h1
  have lt1 : ∀ x ∈ p_1, x.block < W.heap.size := by obtain ⟨m, hm⟩ := k1; exact DataW.trod_lt m _ _ _ hm
  obtain ⟨z1, w1⟩ : ∃ zs, IsRow .i64 W s1 n1 c1 zs := by
    obtain ⟨fuel, hf⟩ := h1
    rcases open_ints Try.underlying23 Try.underlying3 (by kernel_rfl) hf with ⟨hcs, _⟩ | ⟨x, l, c, zs, hcs, _, hl, hm, hz, _, hcell, hwz⟩
    · simp [Value.cells] at hcs
      obtain ⟨rfl, rfl, rfl⟩ := hcs
      exact ⟨[], .inl ⟨rfl, rfl, rfl, rfl⟩⟩
    · simp [Value.cells] at hcs
      obtain ⟨rfl, rfl, rfl⟩ := hcs
      exact ⟨zs, .inr ⟨_, rfl, hl, hm, by simpa using hz, hcell, hwz⟩⟩
  clear hA0 hval0
  refine (walk s0 n0 c0 z0 s1 n1 c1 z1 W w0 w1).mono fun e W' ⟨he, bel⟩ => ?_
  subst he
  exact ⟨_, rfl, _, _, _, [], _, [], hW', trodAll_mk1 (shut_bool Try.underlying4 _), (trodAll_cons_mk (Below.trod laidOut (by kernel_rfl) (of_decide_eq_true (by kernel_rfl)) k0 bel lt0) (trodAll_cons_mk (Below.trod laidOut (by kernel_rfl) (of_decide_eq_true (by kernel_rfl)) k1 bel lt1) trodAll_mk0)), rfl, bel.frame _, fun h => by cases h⟩

theorem over : Rows.solveAloneRow.holds Try.pinned (OpenSpec.ofChange Rows.solveAloneSpec) :=
  OpenClaim.holds_of_wide 5 Try.f5 rfl rfl rfl rfl rfl rfl rfl ⟨rfl, rfl, rfl, rfl, rfl⟩ rfl rfl rfl rfl rfl (by kernel_rfl) Try.func5 (by kernel_rfl)
    (of_decide_eq_true (by kernel_rfl)) (by unfold Func.isWrapper; first | (rw [if_pos (by decide +kernel)]; kernel_rfl) | (rw [if_neg (by decide +kernel)]; exact ⟨rfl, rfl⟩))
    (fun os started H enc _ => lifted os started H enc)

theorem proved : Rows.SolveAloneSaid :=
  over
#print axioms proved
end Go.Proofs.Ytpammdogkkipbaa.solveAlone
