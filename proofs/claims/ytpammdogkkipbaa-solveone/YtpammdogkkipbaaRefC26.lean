/- The document's own answers of layer 10, second part: a number less what the columns ahead make of it; what an even matrix is made of. -/
import Derived.Test.YtpammdogkkipbaaRefC25
namespace Go.Proofs.Ytpammdogkkipbaa
open Go.ChangeShapes Go.WideShapes Go.ChangeAt Go.RowKit
open Go.Proofs.Ytpammdogkkipbaa.Fx Go.Proofs.Ytpammdogkkipbaa.Wd Go.Proofs.Ytpammdogkkipbaa.Sc Go.Proofs.Ytpammdogkkipbaa.Sl
set_option linter.unusedVariables false
attribute [local go_sem] Ext.cell Ext.froz Ext.lt Ext.lt1 Ext.lt2 Ext.lt3 Ext.all Ext.set_u drew_heap setCell_size Ext.set_size
namespace Sv
open Ma
set_option maxRecDepth 100000 in
set_option maxHeartbeats 4000000 in
theorem rest_c {W : World} {B : Nat} {b : Bool} (hB : Bo W B b) (x : Int) {P Q D n : Nat} {p q d : Nat → Int} (hp0 : W.rowIs P 3 n (fun k => .int .i64 (p k))) (hq0 : W.rowIs Q 3 n (fun k => .int .i64 (q k))) (hd0 : W.rowIs D 3 n (fun k => .int .i64 (d k))) {j : Nat} (hj : j ≤ n) (hn : n ≤ 6) :
    Calls Try.prog 26 #[.pointer (some ⟨B, 0, none⟩), .int .i64 x, .slice (some ⟨P, 0, none⟩) n n, .slice (some ⟨Q, 0, none⟩) n n, .slice (some ⟨D, 0, none⟩) n n, .int .i64 j] W fun e w' => e = .returned (.int .i64 (lr x p q d j)) ∧ Kb B W w' ∧ Bo w' B (b || lf x p q d j) := by
  go_enter Try.func26, Try.ntmps26
  go_wp2_with (first | (go_at_call 30; refine (less_c hB _ _).mono ?_; rintro e w' ⟨rfl, hk0, hB0⟩))
  go_loopw [13, 14] (fun v i wr => ∃ k : Nat, k ≤ j ∧ i = .int .i64 k ∧ v = .int .i64 (lr x p q d k) ∧ Kb B W wr ∧ Bo wr B (b || lf x p q d k)) (fun _ i _ => (j - (intOf i).toNat))
  case atStart => exact ⟨0, by omega, rfl, rfl, hk0, hB0⟩
  case round =>
    clear hk0 hB0
    obtain ⟨k, hk, rfl, rfl, hkb, hB0⟩ := hrel
    by_cases hlt : k < j
    · have hlt' : (k : Int) < j := by omega
      have hkn : (k : Int) < n := by omega
      have hp := row_kb hp0 hB hkb
      have hq := row_kb hq0 hB hkb
      have hd := row_kb hd0 hB hkb
      have hcp := hp.cell (i := k) (by omega)
      have hcq := hq.cell (i := k) (by omega)
      have hcd := hd.cell (i := k) (by omega)
      have hL : Hid (lr x p q d (k + 1) = sv (lr x p q d k) (tv (tv (p k) (q k)) (d k))) := rfl
      have hF : Hid ((b || lf x p q d (k + 1)) = (((b || lf x p q d k) || tb (p k) (q k)) || tb (tv (p k) (q k)) (d k) || so (lr x p q d k) (tv (tv (p k) (q k)) (d k)))) := by
        show (b || (lf x p q d k || (tb (p k) (q k) || tb (tv (p k) (q k)) (d k) || so (lr x p q d k) (tv (tv (p k) (q k)) (d k))))) = _
        simp only [Bool.or_assoc]
      generalize lr x p q d k = N1 at *
      generalize hP1 : p k = P1 at *
      generalize hQ1 : q k = Q1 at *
      generalize hD1 : d k = D1 at *
      generalize hb0 : (b || lf x p q d k) = b0 at *
      have k1 : Unit := ()
      have k2 : Unit := ()
      clear hP1 hQ1 hD1 hb0 hp0 hq0 hd0 hB
      go_wp2
      go_region_held3 (fun w' => w'.cell? ⟨P, k, none⟩ = some (.int .i64 P1) ∧ w'.cell? ⟨Q, k, none⟩ = some (.int .i64 Q1) ∧ w'.cell? ⟨D, k, none⟩ = some (.int .i64 D1)) ((refine ⟨?_, ?_, ?_⟩ <;> first | assumption | (simp [go_sem, *]; done))) (first | (go_at_call 31; (have := k1; clear this k1); refine (times_c (B := B) (b := b0) (by first | exact hB0 | exact World.rowIs.drew hB0) P1 Q1).mono ?_; rintro e w1 ⟨rfl, hk1, hB1⟩; have c1 : w1.cell? ⟨P, k, none⟩ = some (.int .i64 P1) := (hk1.cell hp.lt (hB0.ne hp)).trans hcp; have c2 : w1.cell? ⟨Q, k, none⟩ = some (.int .i64 Q1) := (hk1.cell hq.lt (hB0.ne hq)).trans hcq; have c3 : w1.cell? ⟨D, k, none⟩ = some (.int .i64 D1) := (hk1.cell hd.lt (hB0.ne hd)).trans hcd) | (go_at_call 31; (have := k2; clear this k2); refine (times_c (B := B) (b := b0 || tb P1 Q1) hB1 (tv P1 Q1) D1).mono ?_; rintro e w2 ⟨rfl, hk2, hB2⟩; have d1 : w2.cell? ⟨P, k, none⟩ = some (.int .i64 P1) := (hk2.cell (Nat.lt_of_lt_of_le hp.lt hk1.size) (hB0.ne hp)).trans c1; have d2 : w2.cell? ⟨Q, k, none⟩ = some (.int .i64 Q1) := (hk2.cell (Nat.lt_of_lt_of_le hq.lt hk1.size) (hB0.ne hq)).trans c2; have d3 : w2.cell? ⟨D, k, none⟩ = some (.int .i64 D1) := (hk2.cell (Nat.lt_of_lt_of_le hd.lt hk1.size) (hB0.ne hd)).trans c3) | (go_at_call 30; refine (less_c (B := B) (b := b0 || tb P1 Q1 || tb (tv P1 Q1) D1) hB2 N1 (tv (tv P1 Q1) D1)).mono ?_; rintro e w3 ⟨rfl, hk3, hB3⟩; have e1 : w3.cell? ⟨P, k, none⟩ = some (.int .i64 P1) := (hk3.cell (Nat.lt_of_lt_of_le hp.lt (Nat.le_trans hk1.size hk2.size)) (hB0.ne hp)).trans d1; have e2 : w3.cell? ⟨Q, k, none⟩ = some (.int .i64 Q1) := (hk3.cell (Nat.lt_of_lt_of_le hq.lt (Nat.le_trans hk1.size hk2.size)) (hB0.ne hq)).trans d2; have e3 : w3.cell? ⟨D, k, none⟩ = some (.int .i64 D1) := (hk3.cell (Nat.lt_of_lt_of_le hd.lt (Nat.le_trans hk1.size hk2.size)) (hB0.ne hd)).trans d3))
      clear e1 e2 e3 d1 d2 d3 c1 c2 c3 hcp hcq hcd
      go_wp2
      go_roundw
      case rel => exact ⟨k + 1, by omega, by go_num, by rw [hL.out], (((hkb.drew.trans hk1).trans hk2).trans hk3), by rw [hF.out]; exact hB3⟩
      case measure => simp [intOf]; omega
    · obtain rfl : k = j := by omega
      obtain ⟨N1, hN1⟩ : ∃ N1, lr x p q d k = N1 := ⟨_, rfl⟩
      rw [hN1]
      replace hN1 : Hid (lr x p q d k = N1) := hN1
      go_wp2
      go_ret
      exact ⟨by rw [hN1.out]; rfl, hkb, hB0⟩
/-- A matrix in memory of its own, its list gathered by appends. -/
structure Oc (B : Nat) (W : World) (g n c : Nat) (R : Nat → Nat) (F : Nat → Nat → Int) : Prop where
  hB : B ≤ g
  le : n ≤ c
  max : c ≤ maxLen
  lst : ∃ f, W.rowIs g 23 c f ∧ ∀ i, i < n → f i = .slice (some ⟨R i, 0, none⟩) n n
  row : ∀ i, i < n → B ≤ R i ∧ W.rowIs (R i) 3 n (fun j => .int .i64 (F i j))
  inj : ∀ i j, i < n → j < n → R i = R j → i = j
theorem Oc.mr {B : Nat} {W W' : World} {g n c : Nat} {R : Nat → Nat} {F : Nat → Nat → Int} (h : Oc B W g n c R F) (m : Mr W W') : Oc B W' g n c R F := by
  obtain ⟨f, h1, h2⟩ := h.lst
  exact ⟨h.hB, h.le, h.max, ⟨f, rowIs_mr h1 m, h2⟩, fun i hi => ⟨(h.row i hi).1, rowIs_mr (h.row i hi).2 m⟩, h.inj⟩
theorem Oc.congr {B : Nat} {W : World} {g n c : Nat} {R : Nat → Nat} {F G : Nat → Nat → Int} (h : Oc B W g n c R F) (e : ∀ i j, i < n → j < n → F i j = G i j) : Oc B W g n c R G :=
  ⟨h.hB, h.le, h.max, h.lst, fun i hi => ⟨(h.row i hi).1, (h.row i hi).2.congr (fun j hj => by rw [e i j hi hj])⟩, h.inj⟩
theorem Oc.kb {B0 B : Nat} {W W' : World} {g n c : Nat} {R : Nat → Nat} {F : Nat → Nat → Int} {v : Bool} (h : Oc B0 W g n c R F) (b : Bo W B v) (k : Kb B W W') : Oc B0 W' g n c R F := by
  obtain ⟨f, h1, h2⟩ := h.lst
  exact ⟨h.hB, h.le, h.max, ⟨f, h1.of_block (k.block g h1.lt (b.neL h1)), h2⟩, fun i hi => ⟨(h.row i hi).1, row_kb (h.row i hi).2 b k⟩, h.inj⟩
theorem Oc.at' {B : Nat} {W : World} {g n c : Nat} {R : Nat → Nat} {F : Nat → Nat → Int} (h : Oc B W g n c R F) (i : Nat) (hi : i < n) : g < W.heap.size ∧ B ≤ R i ∧ R i < W.heap.size ∧ W.cell? ⟨g, i, none⟩ = some (.slice (some ⟨R i, 0, none⟩) n n) := by
  obtain ⟨f, h1, h2⟩ := h.lst
  exact ⟨h1.lt, (h.row i hi).1, (h.row i hi).2.lt, by rw [h1.cell (by have := h.le; omega), h2 i hi]⟩
theorem Oc.ne {B : Nat} {W : World} {g n c : Nat} {R : Nat → Nat} {F : Nat → Nat → Int} (h : Oc B W g n c R F) {b m : Nat} {f : Nat → Value} (hb : W.rowIs b 3 m f) : g ≠ b := fun e => by
  obtain ⟨f', h1, h2⟩ := h.lst
  subst e
  exact absurd (rowIs_ty h1 hb) (by decide)
theorem Oc.set {B : Nat} {W : World} {g n c : Nat} {R : Nat → Nat} {F : Nat → Nat → Int} (h : Oc B W g n c R F) (i j : Nat) (hi : i < n) (X : Int) : Oc B (W.setCell ⟨R i, j, none⟩ (.int .i64 X)) g n c R (up F i j X) := by
  obtain ⟨f, h1, h2⟩ := h.lst
  refine ⟨h.hB, h.le, h.max, ⟨f, h1.setOther (h.ne (h.row i hi).2) _, h2⟩, fun p hp => ⟨(h.row p hp).1, ?_⟩, h.inj⟩
  by_cases e : p = i
  · subst e
    exact ((h.row p hp).2.set j _).congr (fun q hq => by unfold up; by_cases e : q = j <;> simp [e])
  · exact ((h.row p hp).2.setOther (fun e' => e (h.inj p i hp hi e')) _).congr (fun q hq => by unfold up; simp [e])
/-- A store into a row of its own elsewhere. -/
theorem Oc.other {B : Nat} {W : World} {g n c : Nat} {R : Nat → Nat} {F : Nat → Nat → Int} (h : Oc B W g n c R F) {b m : Nat} {f : Nat → Value} (hb : W.rowIs b 3 m f) (hR : ∀ i, i < n → R i ≠ b) (j : Nat) (v : Value) : Oc B (W.setCell ⟨b, j, none⟩ v) g n c R F := by
  obtain ⟨f', h1, h2⟩ := h.lst
  exact ⟨h.hB, h.le, h.max, ⟨f', h1.setOther (h.ne hb) _, h2⟩, fun p hp => ⟨(h.row p hp).1, (h.row p hp).2.setOther (hR p hp) _⟩, h.inj⟩
theorem Oc.done {B : Nat} {W : World} {g n c : Nat} {R : Nat → Nat} {F : Nat → Nat → Int} (h : Oc B W g n c R F) (hn : n ≤ maxLen) (hb : ∀ i j, i < n → j < n → -9223372036854775808 ≤ F i j ∧ F i j ≤ 9223372036854775807) : Rs W (some ⟨g, 0, none⟩) c (mkR (fun i => Ma.mk (F i) n) n) := by
  obtain ⟨f, h1, h2⟩ := h.lst
  refine ⟨by rw [mkR_length]; exact h.le, h.max, fun e => (by cases e), fun j hj => ⟨g, 0, rfl, h1.lt, fun i hi => ?_⟩⟩
  rw [mkR_length] at hi
  refine ⟨some ⟨R i, 0, none⟩, n, ?_, ?_⟩
  · rw [rw_mkR _ _ _ hi, mk_length, Nat.zero_add, h1.cell (by have := h.le; omega), h2 i hi]
  · rw [rw_mkR _ _ _ hi]; exact is_rowIs (h.row i hi).2 hn (fun j hj => hb i j hi hj)
/-- Rows of zeros that are gathered: k of them. -/
def Og (B : Nat) (W : World) (v : Value) (n k : Nat) (R : Nat → Nat) : Prop := W.ownsRow B 23 1 v k ((List.range k).map (fun i => .slice (some ⟨R i, 0, none⟩) n n)) ∧ (∀ i, i < k → B ≤ R i ∧ W.rowIs (R i) 3 n (fun _ => .int .i64 0)) ∧ ∀ i j, i < k → j < k → R i = R j → i = j
theorem row_grown {W W' : World} {b n base s m t : Nat} {f : Nat → Value} {v : Value} {xs : List Value} (ht : t ≠ 23) (g : W.rowIs b t n f) (ho : W.ownsRow base 23 s v m xs) (hg : W.grownBy W' v.ownBlock) : W'.rowIs b t n f := by
  refine g.of_block (hg.block b g.lt (fun e => ?_))
  obtain ⟨-, ⟨rfl, -⟩ | ⟨q, cap, cur, rfl, -, hc', -⟩⟩ := ho
  · cases e
  · simp only [Value.ownBlock, Option.some.injEq] at e
    subst e
    obtain ⟨c, hc, -, -⟩ := g
    rw [hc] at hc'
    simp only [Option.some.injEq, Obj.cells.injEq] at hc'
    exact absurd hc'.2.1 ht
theorem Og.push {B : Nat} {W W1 W' : World} {v v' : Value} {n k : Nat} {R : Nat → Nat} (h : Og B W v n k R) (hB : B ≤ W.heap.size) (e1 : W1 = (W.alloc (.cells (madeCells #[.int .i64 0] n) 3)).alloc (.cells #[.slice (some ⟨W.heap.size, 0, none⟩) n n] 23)) (ho : W'.ownsRow B 23 1 v' (k + 1) ((List.range k).map (fun i => .slice (some ⟨R i, 0, none⟩) n n) ++ [.slice (some ⟨W.heap.size, 0, none⟩) n n])) (hg : W1.grownBy W' v.ownBlock) : Og B W' v' n (k + 1) (fun i => if i = k then W.heap.size else R i) := by
  obtain ⟨h1, h2, h3⟩ := h
  subst e1
  have hW1 := (h1.alloc (.cells (madeCells #[.int .i64 0] n) 3)).alloc (.cells #[.slice (some ⟨W.heap.size, 0, none⟩) n n] 23)
  refine ⟨?_, fun i hi => ?_, fun i j hi hj e => ?_⟩
  · have e : (List.range (k + 1)).map (fun i => Value.slice (some ⟨if i = k then W.heap.size else R i, 0, none⟩) n n) = (List.range k).map (fun i => .slice (some ⟨R i, 0, none⟩) n n) ++ [.slice (some ⟨W.heap.size, 0, none⟩) n n] := by
      rw [List.range_succ, List.map_append]
      congr 1
      · refine List.map_congr_left (fun i hi => ?_)
        rw [if_neg (by have := List.mem_range.1 hi; omega)]
      · simp
    rw [e]; exact ho
  · dsimp only
    by_cases e : i = k
    · rw [if_pos e]
      exact ⟨hB, row_grown (by decide) ((World.rowIs_made W (.int .i64 0) n 3).alloc _) hW1 hg⟩
    · rw [if_neg e]
      obtain ⟨q1, q2⟩ := h2 i (by omega)
      exact ⟨q1, row_grown (by decide) ((q2.alloc _).alloc _) hW1 hg⟩
  · dsimp only at e
    by_cases ei : i = k <;> by_cases ej : j = k
    · omega
    · rw [if_pos ei, if_neg ej] at e
      have := (h2 j (by omega)).2.lt
      omega
    · rw [if_neg ei, if_pos ej] at e
      have := (h2 i (by omega)).2.lt
      omega
    · rw [if_neg ei, if_neg ej] at e
      exact h3 i j (by omega) (by omega) e
theorem Og.done {B : Nat} {W : World} {v : Value} {n : Nat} {R : Nat → Nat} (h : Og B W v n n R) (hn : 1 ≤ n) : ∃ g c, v = .slice (some ⟨g, 0, none⟩) n c ∧ Oc B W g n c R (fun _ _ => 0) := by
  obtain ⟨⟨h1, ⟨rfl, h0⟩ | ⟨g, cap, cur, rfl, hg, hc, hle, hm, hs, ht⟩⟩, h2, h3⟩ := h
  · omega
  · refine ⟨g, cap, rfl, hg, hle, hm, ⟨fun i => cur.getD i undef, ⟨cur, hc, by omega, fun i hi => by simp [Array.getD, show i < cur.size by omega]⟩, fun i hi => ?_⟩, h2, h3⟩
    have e2 : cur.toList[i]? = some (.slice (some ⟨R i, 0, none⟩) n n) := by
      rw [← List.getElem?_take_of_lt (i := i) (j := n * 1) (by omega), ht, List.getElem?_map, List.getElem?_range hi]; rfl
    rw [Array.getElem?_toList] at e2
    show cur.getD i undef = _
    rw [Array.getD_eq_getD_getElem?, e2]; rfl
end Sv
end Go.Proofs.Ytpammdogkkipbaa
