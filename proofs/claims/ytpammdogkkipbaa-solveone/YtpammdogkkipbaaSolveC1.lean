/- The contracts of package solve, second part: what the closures tell of a place. -/
import Derived.Test.YtpammdogkkipbaaSolveC0
namespace Go.Proofs.Ytpammdogkkipbaa
open Go.ChangeShapes Go.WideShapes Go.ChangeAt Go.RowKit
open Go.Proofs.Ytpammdogkkipbaa.Fx Go.Proofs.Ytpammdogkkipbaa.Wd Go.Proofs.Ytpammdogkkipbaa.Sc Go.Proofs.Ytpammdogkkipbaa.Sl Go.Proofs.Ytpammdogkkipbaa.Sm
set_option linter.unusedVariables false
attribute [local go_sem] Ext.cell Ext.froz Ext.lt Ext.lt1 Ext.lt2 Ext.lt3 Ext.all Ext.set_u drew_heap setCell_size Ext.set_size
namespace Sv
open Ma
/-- A list in a box: its cells. -/
structure Bx (w : World) (b : Nat) (v : Value) : Prop where
  lt : b < w.heap.size
  cell : w.cell? ⟨b, 0, none⟩ = some v
  fz : w.frozen? ⟨b, 0, none⟩ = false
theorem Bx.mr {w w' : World} {b : Nat} {v : Value} (h : Bx w b v) (m : Mr w w') : Bx w' b v :=
  ⟨Nat.lt_of_lt_of_le h.lt m.below.size, (m.below.cell (p := ⟨b, 0, none⟩) h.lt).trans h.cell, by
    have := Ext.froz ⟨w', m⟩ b 0 h.lt
    exact this.trans h.fz⟩
set_option maxRecDepth 100000 in
set_option maxHeartbeats 2000000 in
theorem sq_c {lb ib jb db g Ri Rj D n i j k : Nat} {P Q X : Int} (w : World) (hn : n ≤ 6) (hi : i < n) (hj : j < n) (hk : k < n) (hl : Bx w lb (.slice (some ⟨g, 0, none⟩) n n)) (hib : Bx w ib (.int .i64 i)) (hjb : Bx w jb (.int .i64 j)) (hd : Bx w db (.slice (some ⟨D, 0, none⟩) n n))
    (g1 : g < w.heap.size) (g2 : Ri < w.heap.size) (g3 : Rj < w.heap.size) (g4 : D < w.heap.size) (h1 : w.cell? ⟨g, i, none⟩ = some (.slice (some ⟨Ri, 0, none⟩) n n)) (h2 : w.cell? ⟨g, j, none⟩ = some (.slice (some ⟨Rj, 0, none⟩) n n))
    (h3 : w.cell? ⟨Ri, k, none⟩ = some (.int .i64 P)) (h4 : w.cell? ⟨Rj, k, none⟩ = some (.int .i64 Q)) (h5 : w.cell? ⟨D, k, none⟩ = some (.int .i64 X)) :
    Giv Try.prog 51 #[.int .i64 k, .pointer (some ⟨lb, 0, none⟩), .pointer (some ⟨ib, 0, none⟩), .pointer (some ⟨jb, 0, none⟩), .pointer (some ⟨db, 0, none⟩)] w (tb P Q || tb (tv P Q) X) (.int .i64 (tv (tv P Q) X)) := by
  unfold Giv
  have hi' : (i : Int) < n := by omega
  have hj' : (j : Int) < n := by omega
  have hk' : (k : Int) < n := by omega
  obtain ⟨l1, c1, -⟩ := hl
  obtain ⟨l2, c2, -⟩ := hib
  obtain ⟨l3, c3, -⟩ := hjb
  obtain ⟨l4, c4, -⟩ := hd
  have k1 : Unit := ()
  have k2 : Unit := ()
  go_enter Try.func51, Try.ntmps51
  go_wp2
  go_region_held (fun w' => w'.cell? ⟨lb, 0, none⟩ = some (.slice (some ⟨g, 0, none⟩) n n) ∧ w'.cell? ⟨ib, 0, none⟩ = some (.int .i64 i) ∧ w'.cell? ⟨jb, 0, none⟩ = some (.int .i64 j) ∧ w'.cell? ⟨db, 0, none⟩ = some (.slice (some ⟨D, 0, none⟩) n n) ∧ w'.cell? ⟨g, i, none⟩ = some (.slice (some ⟨Ri, 0, none⟩) n n) ∧ w'.cell? ⟨g, j, none⟩ = some (.slice (some ⟨Rj, 0, none⟩) n n) ∧ w'.cell? ⟨Ri, k, none⟩ = some (.int .i64 P) ∧ w'.cell? ⟨Rj, k, none⟩ = some (.int .i64 Q) ∧ w'.cell? ⟨D, k, none⟩ = some (.int .i64 X)) ((refine ⟨?_, ?_, ?_, ?_, ?_, ?_, ?_, ?_, ?_⟩ <;> first | assumption | (simp [go_sem, *]; done))) (first | (go_at_call 52; (have := k1; clear this k1); refine Calls.mono (stimes_c P Q _) ?_; rintro e w1 ⟨⟨x1, rfl⟩, ⟨hb1, rfl⟩ | ⟨hb1, u, pv, rfl⟩⟩; rotate_left; exact ⟨rfl, Mr.mk' (by repeat (first | (with_reducible exact Mr.refl _) | (with_reducible assumption) | (with_reducible apply Mr.drew) | (with_reducible apply Mr.alloc) | (with_reducible apply Mr.ext) | (with_reducible refine Mr.setCell ?_ (by first | (simp; done) | (simp; omega) | omega | (refine leOf0 ?_; (repeat (first | (with_reducible exact Mr.refl _) | (with_reducible apply Mr.drew) | (with_reducible apply Mr.alloc) | (with_reducible apply Mr.ext) | (with_reducible refine Mr.setCell ?_ (by first | (simp; done) | (simp; omega) | omega) _))); done) | (refine leOf ?_; (repeat (first | (with_reducible exact Mr.refl _) | (with_reducible apply Mr.drew) | (with_reducible apply Mr.alloc) | (with_reducible apply Mr.ext) | (with_reducible refine Mr.setCell ?_ (by first | (simp; done) | (simp; omega) | omega) _))); done)) _))), .inr ⟨by simp [*], _, _, rfl⟩⟩) | (go_at_call 52; (have := k2; clear this k2); refine Calls.mono (stimes_c (tv P Q) X _) ?_; rintro e w2 ⟨⟨x2, rfl⟩, ⟨hb2, rfl⟩ | ⟨hb2, u, pv, rfl⟩⟩; rotate_left; exact ⟨rfl, Mr.mk' (by repeat (first | (with_reducible exact Mr.refl _) | (with_reducible assumption) | (with_reducible apply Mr.drew) | (with_reducible apply Mr.alloc) | (with_reducible apply Mr.ext) | (with_reducible refine Mr.setCell ?_ (by first | (simp; done) | (simp; omega) | omega | (refine leOf0 ?_; (repeat (first | (with_reducible exact Mr.refl _) | (with_reducible apply Mr.drew) | (with_reducible apply Mr.alloc) | (with_reducible apply Mr.ext) | (with_reducible refine Mr.setCell ?_ (by first | (simp; done) | (simp; omega) | omega) _))); done) | (refine leOf ?_; (repeat (first | (with_reducible exact Mr.refl _) | (with_reducible apply Mr.drew) | (with_reducible apply Mr.alloc) | (with_reducible apply Mr.ext) | (with_reducible refine Mr.setCell ?_ (by first | (simp; done) | (simp; omega) | omega) _))); done)) _))), .inr ⟨by simp [*], _, _, rfl⟩⟩))
  go_wp2
  go_ret
  exact ⟨Mr.mk' (by repeat (first | (with_reducible exact Mr.refl _) | (with_reducible assumption) | (with_reducible apply Mr.drew) | (with_reducible apply Mr.alloc) | (with_reducible apply Mr.ext) | (with_reducible refine Mr.setCell ?_ (by first | (simp; done) | (simp; omega) | omega | (refine leOf0 ?_; (repeat (first | (with_reducible exact Mr.refl _) | (with_reducible apply Mr.drew) | (with_reducible apply Mr.alloc) | (with_reducible apply Mr.ext) | (with_reducible refine Mr.setCell ?_ (by first | (simp; done) | (simp; omega) | omega) _))); done) | (refine leOf ?_; (repeat (first | (with_reducible exact Mr.refl _) | (with_reducible apply Mr.drew) | (with_reducible apply Mr.alloc) | (with_reducible apply Mr.ext) | (with_reducible refine Mr.setCell ?_ (by first | (simp; done) | (simp; omega) | omega) _))); done)) _))), .inl ⟨by simp [*], rfl⟩⟩
/-- .. over a matrix and a list in memory. -/
theorem sqo_c {B lb ib jb db g D n i j k : Nat} {R : Nat → Nat} {F : Nat → Nat → Int} {d : Nat → Int} (w : World) (hn : n ≤ 6) (hi : i < n) (hj : j < n) (hk : k < n) (hl : Bx w lb (.slice (some ⟨g, 0, none⟩) n n)) (hib : Bx w ib (.int .i64 i)) (hjb : Bx w jb (.int .i64 j)) (hd : Bx w db (.slice (some ⟨D, 0, none⟩) n n))
    (hO : Om B w g n R F) (hD : w.rowIs D 3 n (fun k => .int .i64 (d k))) :
    Giv Try.prog 51 #[.int .i64 k, .pointer (some ⟨lb, 0, none⟩), .pointer (some ⟨ib, 0, none⟩), .pointer (some ⟨jb, 0, none⟩), .pointer (some ⟨db, 0, none⟩)] w (tb (F i k) (F j k) || tb (tv (F i k) (F j k)) (d k)) (.int .i64 (tv (tv (F i k) (F j k)) (d k))) :=
  sq_c w hn hi hj hk hl hib hjb hd hO.lst.lt (hO.at' i hi).2.2.1 (hO.at' j hj).2.2.1 hD.lt (hO.at' i hi).2.2.2 (hO.at' j hj).2.2.2 (hO.num i k hi hk).1 (hO.num j k hj hk).1 (hD.cell hk)
/-- What the columns ahead leave of a number. -/
def lz (X : Int) (p q d : Nat → Int) (j : Nat) : Int := gr X (fun k => tv (tv (p k) (q k)) (d k)) j
def lzb (X : Int) (p q d : Nat → Int) (j : Nat) : Bool := gf X (fun k => tv (tv (p k) (q k)) (d k)) (fun k => tb (p k) (q k) || tb (tv (p k) (q k)) (d k)) j
set_option maxRecDepth 100000 in
set_option maxHeartbeats 2000000 in
theorem left_c {B ab lb db b1 o1 b2 o2 rc ca g D n i j : Nat} {R : Nat → Nat} {F : Nat → Nat → Int} {d : Nat → Int} {X : Int} (w : World) (hn : n ≤ 6) (hi : i < n) (hj : j < n) (ha : Bx w ab (.slice (some ⟨b1, o1, none⟩) n ca)) (hl : Bx w lb (.slice (some ⟨g, 0, none⟩) n n)) (hd : Bx w db (.slice (some ⟨D, 0, none⟩) n n))
    (g1 : b1 < w.heap.size) (g2 : b2 < w.heap.size) (h1 : w.cell? ⟨b1, o1 + i, none⟩ = some (.slice (some ⟨b2, o2, none⟩) n rc)) (h2 : w.cell? ⟨b2, o2 + j, none⟩ = some (.int .i64 X)) (hO : Om B w g n R F) (hD : w.rowIs D 3 n (fun k => .int .i64 (d k))) :
    Giv Try.prog 49 #[.int .i64 i, .int .i64 j, .pointer (some ⟨ab, 0, none⟩), .pointer (some ⟨lb, 0, none⟩), .pointer (some ⟨db, 0, none⟩)] w (lzb X (F i) (F j) d j) (.int .i64 (lz X (F i) (F j) d j)) := by
  have hi' : (i : Int) < n := by omega
  have hj' : (j : Int) < n := by omega
  have m2 : Mr w ((w.alloc (.cells #[.int .i64 i] 3)).alloc (.cells #[.int .i64 j] 3)) := ((Mr.refl w).alloc _).alloc _
  have b5 : Bx ((w.alloc (.cells #[.int .i64 i] 3)).alloc (.cells #[.int .i64 j] 3)) w.heap.size (.int .i64 i) := ⟨by simp; omega, by simp [go_sem], by simp [go_sem]⟩
  have b6 : Bx ((w.alloc (.cells #[.int .i64 i] 3)).alloc (.cells #[.int .i64 j] 3)) (w.heap.size + 1) (.int .i64 j) := ⟨by simp, by simp [go_sem], by simp [go_sem]⟩
  have hcall : ∀ W : World, Mr ((w.alloc (.cells #[.int .i64 i] 3)).alloc (.cells #[.int .i64 j] 3)) W → Giv Try.prog 50 #[.int .i64 X, .int .i64 0, .int .i64 j, .func (.func 51) #[] #[.pointer (some ⟨lb, 0, none⟩), .pointer (some ⟨w.heap.size, 0, none⟩), .pointer (some ⟨w.heap.size + 1, 0, none⟩), .pointer (some ⟨db, 0, none⟩)]] W (lzb X (F i) (F j) d j) (.int .i64 (lz X (F i) (F j) d j)) := by
    intro W m1
    refine sless_c _ _ _ _ _ _ _ _ (by omega) (by omega) (by omega) _ (fun args W => by simp [go_sem]) (fun k hk y => ?_)
    have m : Mr w y.u := (m2.trans m1).trans y.h
    have := sqo_c (k := k) y.u hn hi hj (by omega) (hl.mr m) (b5.mr (m1.trans y.h)) (b6.mr (m1.trans y.h)) (hd.mr m) (hO.mr m) (rowIs_mr hD m)
    rw [Int.zero_add]
    exact this
  clear hO hD hl hd m2 b5 b6
  unfold Giv
  obtain ⟨l1, c1, -⟩ := ha
  have z1 : ab < w.heap.size + 1 + 1 := by omega
  have z2 : b1 < w.heap.size + 1 + 1 := by omega
  have z3 : b2 < w.heap.size + 1 + 1 := by omega
  have z4 : w.heap.size < w.heap.size + 1 + 1 := by omega
  have z5 : w.heap.size + 1 < w.heap.size + 1 + 1 := by omega
  go_enter Try.func49, Try.ntmps49
  go_wp2
  go_region_held (fun w' => w'.cell? ⟨ab, 0, none⟩ = some (.slice (some ⟨b1, o1, none⟩) n ca) ∧ w'.cell? ⟨w.heap.size, 0, none⟩ = some (.int .i64 i) ∧ w'.cell? ⟨w.heap.size + 1, 0, none⟩ = some (.int .i64 j) ∧ w'.cell? ⟨b1, o1 + i, none⟩ = some (.slice (some ⟨b2, o2, none⟩) n rc) ∧ w'.cell? ⟨b2, o2 + j, none⟩ = some (.int .i64 X)) ((refine ⟨?_, ?_, ?_, ?_, ?_⟩ <;> first | assumption | (simp [go_sem, *]; done))) (first | (go_at_call 50; refine Calls.mono (hcall _ (by repeat (first | (with_reducible exact Mr.refl _) | (with_reducible assumption) | (with_reducible apply Mr.drew) | (with_reducible apply Mr.alloc) | (with_reducible apply Mr.ext) | (with_reducible refine Mr.setCell ?_ (by first | (simp; done) | (simp; omega) | omega | (refine leOf0 ?_; (repeat (first | (with_reducible exact Mr.refl _) | (with_reducible apply Mr.drew) | (with_reducible apply Mr.alloc) | (with_reducible apply Mr.ext) | (with_reducible refine Mr.setCell ?_ (by first | (simp; done) | (simp; omega) | omega) _))); done) | (refine leOf ?_; (repeat (first | (with_reducible exact Mr.refl _) | (with_reducible apply Mr.drew) | (with_reducible apply Mr.alloc) | (with_reducible apply Mr.ext) | (with_reducible refine Mr.setCell ?_ (by first | (simp; done) | (simp; omega) | omega) _))); done)) _)))) ?_; rintro e w2 ⟨⟨x2, rfl⟩, ⟨hb2, rfl⟩ | ⟨hb2, u, pv, rfl⟩⟩; rotate_left; exact ⟨rfl, Mr.mk' (by repeat (first | (with_reducible exact Mr.refl _) | (with_reducible assumption) | (with_reducible apply Mr.drew) | (with_reducible apply Mr.alloc) | (with_reducible apply Mr.ext) | (with_reducible refine Mr.setCell ?_ (by first | (simp; done) | (simp; omega) | omega | (refine leOf0 ?_; (repeat (first | (with_reducible exact Mr.refl _) | (with_reducible apply Mr.drew) | (with_reducible apply Mr.alloc) | (with_reducible apply Mr.ext) | (with_reducible refine Mr.setCell ?_ (by first | (simp; done) | (simp; omega) | omega) _))); done) | (refine leOf ?_; (repeat (first | (with_reducible exact Mr.refl _) | (with_reducible apply Mr.drew) | (with_reducible apply Mr.alloc) | (with_reducible apply Mr.ext) | (with_reducible refine Mr.setCell ?_ (by first | (simp; done) | (simp; omega) | omega) _))); done)) _))), .inr ⟨hb2, _, _, rfl⟩⟩))
  go_wp2
  go_ret
  exact ⟨Mr.mk' (by repeat (first | (with_reducible exact Mr.refl _) | (with_reducible assumption) | (with_reducible apply Mr.drew) | (with_reducible apply Mr.alloc) | (with_reducible apply Mr.ext) | (with_reducible refine Mr.setCell ?_ (by first | (simp; done) | (simp; omega) | omega | (refine leOf0 ?_; (repeat (first | (with_reducible exact Mr.refl _) | (with_reducible apply Mr.drew) | (with_reducible apply Mr.alloc) | (with_reducible apply Mr.ext) | (with_reducible refine Mr.setCell ?_ (by first | (simp; done) | (simp; omega) | omega) _))); done) | (refine leOf ?_; (repeat (first | (with_reducible exact Mr.refl _) | (with_reducible apply Mr.drew) | (with_reducible apply Mr.alloc) | (with_reducible apply Mr.ext) | (with_reducible refine Mr.setCell ?_ (by first | (simp; done) | (simp; omega) | omega) _))); done)) _))), .inl ⟨hb2, rfl⟩⟩
set_option maxRecDepth 100000 in
set_option maxHeartbeats 2000000 in
theorem down_c {B lb ib yb g Y n i k : Nat} {R : Nat → Nat} {F : Nat → Nat → Int} {y : Nat → Int} (w : World) (hn : n ≤ 6) (hi : i < n) (hk : k < n) (hl : Bx w lb (.slice (some ⟨g, 0, none⟩) n n)) (hib : Bx w ib (.int .i64 i)) (hy : Bx w yb (.slice (some ⟨Y, 0, none⟩) n n))
    (hO : Om B w g n R F) (hY : w.rowIs Y 3 n (fun k => .int .i64 (y k))) :
    Giv Try.prog 55 #[.int .i64 k, .pointer (some ⟨lb, 0, none⟩), .pointer (some ⟨ib, 0, none⟩), .pointer (some ⟨yb, 0, none⟩)] w (tb (F i k) (y k)) (.int .i64 (tv (F i k) (y k))) := by
  unfold Giv
  have hi' : (i : Int) < n := by omega
  have hk' : (k : Int) < n := by omega
  obtain ⟨l1, c1, -⟩ := hl
  obtain ⟨l2, c2, -⟩ := hib
  obtain ⟨l3, c3, -⟩ := hy
  obtain ⟨g1, -, g2, h1⟩ := hO.at' i hi
  have h3 := (hO.num i k hi hk).1
  have g3 := hY.lt
  have h4 := hY.cell hk
  clear hO hY
  generalize R i = Ri at *
  generalize F i k = P at *
  generalize y k = Q at *
  go_enter Try.func55, Try.ntmps55
  go_wp2
  go_region_held (fun w' => w'.cell? ⟨lb, 0, none⟩ = some (.slice (some ⟨g, 0, none⟩) n n) ∧ w'.cell? ⟨ib, 0, none⟩ = some (.int .i64 i) ∧ w'.cell? ⟨yb, 0, none⟩ = some (.slice (some ⟨Y, 0, none⟩) n n) ∧ w'.cell? ⟨g, i, none⟩ = some (.slice (some ⟨Ri, 0, none⟩) n n) ∧ w'.cell? ⟨Ri, k, none⟩ = some (.int .i64 P) ∧ w'.cell? ⟨Y, k, none⟩ = some (.int .i64 Q)) ((refine ⟨?_, ?_, ?_, ?_, ?_, ?_⟩ <;> first | assumption | (simp [go_sem, *]; done))) (first | (go_at_call 52; refine Calls.mono (stimes_c P Q _) ?_; rintro e w1 ⟨⟨x1, rfl⟩, ⟨hb1, rfl⟩ | ⟨hb1, u, pv, rfl⟩⟩; rotate_left; exact ⟨rfl, Mr.mk' (by repeat (first | (with_reducible exact Mr.refl _) | (with_reducible assumption) | (with_reducible apply Mr.drew) | (with_reducible apply Mr.alloc) | (with_reducible apply Mr.ext) | (with_reducible refine Mr.setCell ?_ (by first | (simp; done) | (simp; omega) | omega | (refine leOf0 ?_; (repeat (first | (with_reducible exact Mr.refl _) | (with_reducible apply Mr.drew) | (with_reducible apply Mr.alloc) | (with_reducible apply Mr.ext) | (with_reducible refine Mr.setCell ?_ (by first | (simp; done) | (simp; omega) | omega) _))); done) | (refine leOf ?_; (repeat (first | (with_reducible exact Mr.refl _) | (with_reducible apply Mr.drew) | (with_reducible apply Mr.alloc) | (with_reducible apply Mr.ext) | (with_reducible refine Mr.setCell ?_ (by first | (simp; done) | (simp; omega) | omega) _))); done)) _))), .inr ⟨hb1, _, _, rfl⟩⟩))
  go_wp2
  go_ret
  exact ⟨Mr.mk' (by repeat (first | (with_reducible exact Mr.refl _) | (with_reducible assumption) | (with_reducible apply Mr.drew) | (with_reducible apply Mr.alloc) | (with_reducible apply Mr.ext) | (with_reducible refine Mr.setCell ?_ (by first | (simp; done) | (simp; omega) | omega | (refine leOf0 ?_; (repeat (first | (with_reducible exact Mr.refl _) | (with_reducible apply Mr.drew) | (with_reducible apply Mr.alloc) | (with_reducible apply Mr.ext) | (with_reducible refine Mr.setCell ?_ (by first | (simp; done) | (simp; omega) | omega) _))); done) | (refine leOf ?_; (repeat (first | (with_reducible exact Mr.refl _) | (with_reducible apply Mr.drew) | (with_reducible apply Mr.alloc) | (with_reducible apply Mr.ext) | (with_reducible refine Mr.setCell ?_ (by first | (simp; done) | (simp; omega) | omega) _))); done)) _))), .inl ⟨hb1, rfl⟩⟩
set_option maxRecDepth 100000 in
set_option maxHeartbeats 2000000 in
theorem up_c {B lb ib yb g Y n i k : Nat} {R : Nat → Nat} {F : Nat → Nat → Int} {y : Nat → Int} (w : World) (hn : n ≤ 6) (hi : i < n) (hk : k < n) (hl : Bx w lb (.slice (some ⟨g, 0, none⟩) n n)) (hib : Bx w ib (.int .i64 i)) (hy : Bx w yb (.slice (some ⟨Y, 0, none⟩) n n))
    (hO : Om B w g n R F) (hY : w.rowIs Y 3 n (fun k => .int .i64 (y k))) :
    Giv Try.prog 56 #[.int .i64 k, .pointer (some ⟨lb, 0, none⟩), .pointer (some ⟨ib, 0, none⟩), .pointer (some ⟨yb, 0, none⟩)] w (tb (F k i) (y k)) (.int .i64 (tv (F k i) (y k))) := by
  unfold Giv
  have hi' : (i : Int) < n := by omega
  have hk' : (k : Int) < n := by omega
  obtain ⟨l1, c1, -⟩ := hl
  obtain ⟨l2, c2, -⟩ := hib
  obtain ⟨l3, c3, -⟩ := hy
  obtain ⟨g1, -, g2, h1⟩ := hO.at' k hk
  have h3 := (hO.num k i hk hi).1
  have g3 := hY.lt
  have h4 := hY.cell hk
  clear hO hY
  generalize R k = Ri at *
  generalize F k i = P at *
  generalize y k = Q at *
  go_enter Try.func56, Try.ntmps56
  go_wp2
  go_region_held (fun w' => w'.cell? ⟨lb, 0, none⟩ = some (.slice (some ⟨g, 0, none⟩) n n) ∧ w'.cell? ⟨ib, 0, none⟩ = some (.int .i64 i) ∧ w'.cell? ⟨yb, 0, none⟩ = some (.slice (some ⟨Y, 0, none⟩) n n) ∧ w'.cell? ⟨g, k, none⟩ = some (.slice (some ⟨Ri, 0, none⟩) n n) ∧ w'.cell? ⟨Ri, i, none⟩ = some (.int .i64 P) ∧ w'.cell? ⟨Y, k, none⟩ = some (.int .i64 Q)) ((refine ⟨?_, ?_, ?_, ?_, ?_, ?_⟩ <;> first | assumption | (simp [go_sem, *]; done))) (first | (go_at_call 52; refine Calls.mono (stimes_c P Q _) ?_; rintro e w1 ⟨⟨x1, rfl⟩, ⟨hb1, rfl⟩ | ⟨hb1, u, pv, rfl⟩⟩; rotate_left; exact ⟨rfl, Mr.mk' (by repeat (first | (with_reducible exact Mr.refl _) | (with_reducible assumption) | (with_reducible apply Mr.drew) | (with_reducible apply Mr.alloc) | (with_reducible apply Mr.ext) | (with_reducible refine Mr.setCell ?_ (by first | (simp; done) | (simp; omega) | omega | (refine leOf0 ?_; (repeat (first | (with_reducible exact Mr.refl _) | (with_reducible apply Mr.drew) | (with_reducible apply Mr.alloc) | (with_reducible apply Mr.ext) | (with_reducible refine Mr.setCell ?_ (by first | (simp; done) | (simp; omega) | omega) _))); done) | (refine leOf ?_; (repeat (first | (with_reducible exact Mr.refl _) | (with_reducible apply Mr.drew) | (with_reducible apply Mr.alloc) | (with_reducible apply Mr.ext) | (with_reducible refine Mr.setCell ?_ (by first | (simp; done) | (simp; omega) | omega) _))); done)) _))), .inr ⟨hb1, _, _, rfl⟩⟩))
  go_wp2
  go_ret
  exact ⟨Mr.mk' (by repeat (first | (with_reducible exact Mr.refl _) | (with_reducible assumption) | (with_reducible apply Mr.drew) | (with_reducible apply Mr.alloc) | (with_reducible apply Mr.ext) | (with_reducible refine Mr.setCell ?_ (by first | (simp; done) | (simp; omega) | omega | (refine leOf0 ?_; (repeat (first | (with_reducible exact Mr.refl _) | (with_reducible apply Mr.drew) | (with_reducible apply Mr.alloc) | (with_reducible apply Mr.ext) | (with_reducible refine Mr.setCell ?_ (by first | (simp; done) | (simp; omega) | omega) _))); done) | (refine leOf ?_; (repeat (first | (with_reducible exact Mr.refl _) | (with_reducible apply Mr.drew) | (with_reducible apply Mr.alloc) | (with_reducible apply Mr.ext) | (with_reducible refine Mr.setCell ?_ (by first | (simp; done) | (simp; omega) | omega) _))); done)) _))), .inl ⟨hb1, rfl⟩⟩
end Sv
end Go.Proofs.Ytpammdogkkipbaa
