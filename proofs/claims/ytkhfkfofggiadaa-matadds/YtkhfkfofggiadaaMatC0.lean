/- Matrices that a call lays in memory of its own. -/
import Derived.Test.YtkhfkfofggiadaaRefC16
import Derived.Deep.OwnRows
import Derived.Laws.CopyOwn
import Derived.Shelf.Abstract
namespace Go.Proofs.Ytkhfkfofggiadaa
open Go.ChangeShapes Go.WideShapes Go.ChangeAt Go.RowKit
open Go.Proofs.Ytkhfkfofggiadaa.Fx Go.Proofs.Ytkhfkfofggiadaa.Sl Go.Proofs.Ytkhfkfofggiadaa.Sm
set_option linter.unusedVariables false
namespace Ma
theorem rowIs_ty {W : World} {b t t' n n' : Nat} {f f' : Nat → Value} (h : W.rowIs b t n f) (h' : W.rowIs b t' n' f') : t = t' := by
  obtain ⟨c, hb, -, -⟩ := h
  obtain ⟨c', hb', -, -⟩ := h'
  rw [hb] at hb'
  simp only [Option.some.injEq, Obj.cells.injEq] at hb'
  exact hb'.2.1
theorem rowIs_mr {W W' : World} {b t n : Nat} {f : Nat → Value} (h : W.rowIs b t n f) (m : Mr W W') : W'.rowIs b t n f := h.of_block (m.below.block b h.lt)
/-- A matrix in memory of its own: the list of its rows at g, row i at R i. -/
structure Om (B : Nat) (W : World) (g n : Nat) (R : Nat → Nat) (F : Nat → Nat → Int) : Prop where
  hB : B ≤ g
  lst : W.rowIs g 23 n (fun i => .slice (some ⟨R i, 0, none⟩) n n)
  row : ∀ i, i < n → B ≤ R i ∧ W.rowIs (R i) 3 n (fun j => .int .i64 (F i j))
  inj : ∀ i j, i < n → j < n → R i = R j → i = j
theorem Om.mr {B : Nat} {W W' : World} {g n : Nat} {R : Nat → Nat} {F : Nat → Nat → Int} (h : Om B W g n R F) (m : Mr W W') : Om B W' g n R F :=
  ⟨h.hB, rowIs_mr h.lst m, fun i hi => ⟨(h.row i hi).1, rowIs_mr (h.row i hi).2 m⟩, h.inj⟩
theorem Om.congr {B : Nat} {W : World} {g n : Nat} {R : Nat → Nat} {F G : Nat → Nat → Int} (h : Om B W g n R F) (e : ∀ i j, i < n → j < n → F i j = G i j) : Om B W g n R G :=
  ⟨h.hB, h.lst, fun i hi => ⟨(h.row i hi).1, (h.row i hi).2.congr (fun j hj => by rw [e i j hi hj])⟩, h.inj⟩
theorem Om.mono {B B' : Nat} {W : World} {g n : Nat} {R : Nat → Nat} {F : Nat → Nat → Int} (h : Om B W g n R F) (e : B' ≤ B) : Om B' W g n R F :=
  ⟨Nat.le_trans e h.hB, h.lst, fun i hi => ⟨Nat.le_trans e (h.row i hi).1, (h.row i hi).2⟩, h.inj⟩
theorem Om.ne {B : Nat} {W : World} {g n : Nat} {R : Nat → Nat} {F : Nat → Nat → Int} (h : Om B W g n R F) (i : Nat) (hi : i < n) : g ≠ R i := fun e => by
  have := rowIs_ty h.lst (e ▸ (h.row i hi).2)
  exact absurd this (by decide)
/-- A row's own place, and what lies there. -/
theorem Om.at' {B : Nat} {W : World} {g n : Nat} {R : Nat → Nat} {F : Nat → Nat → Int} (h : Om B W g n R F) (i : Nat) (hi : i < n) : g < W.heap.size ∧ B ≤ R i ∧ R i < W.heap.size ∧ W.cell? ⟨g, i, none⟩ = some (.slice (some ⟨R i, 0, none⟩) n n) :=
  ⟨h.lst.lt, (h.row i hi).1, (h.row i hi).2.lt, h.lst.cell hi⟩
theorem Om.num {B : Nat} {W : World} {g n : Nat} {R : Nat → Nat} {F : Nat → Nat → Int} (h : Om B W g n R F) (i j : Nat) (hi : i < n) (hj : j < n) : W.cell? ⟨R i, j, none⟩ = some (.int .i64 (F i j)) ∧ W.frozen? ⟨R i, j, none⟩ = false :=
  ⟨(h.row i hi).2.cell hj, (h.row i hi).2.frozen j⟩
/-- A number written. -/
def up (F : Nat → Nat → Int) (i j : Nat) (X : Int) : Nat → Nat → Int := fun p q => if p = i ∧ q = j then X else F p q
theorem Om.set {B : Nat} {W : World} {g n : Nat} {R : Nat → Nat} {F : Nat → Nat → Int} (h : Om B W g n R F) (i j : Nat) (hi : i < n) (X : Int) : Om B (W.setCell ⟨R i, j, none⟩ (.int .i64 X)) g n R (up F i j X) := by
  refine ⟨h.hB, h.lst.setOther (h.ne i hi) _, fun p hp => ⟨(h.row p hp).1, ?_⟩, h.inj⟩
  by_cases e : p = i
  · subst e
    exact ((h.row p hp).2.set j _).congr (fun q hq => by unfold up; by_cases e : q = j <;> simp [e])
  · exact ((h.row p hp).2.setOther (fun e' => e (h.inj p i hp hi e')) _).congr (fun q hq => by unfold up; simp [e])
/-- A row written whole. -/
theorem Om.rowSet {B : Nat} {W W' : World} {g n : Nat} {R : Nat → Nat} {F : Nat → Nat → Int} (h : Om B W g n R F) (i : Nat) (hi : i < n) (f : Nat → Int) (hr : W'.rowIs (R i) 3 n (fun j => .int .i64 (f j))) (ho : ∀ b, b ≠ R i → b < W.heap.size → W'.heap[b]? = W.heap[b]?) : Om B W' g n R (fun p q => if p = i then f q else F p q) := by
  refine ⟨h.hB, h.lst.of_block (ho g (h.ne i hi) h.lst.lt), fun p hp => ⟨(h.row p hp).1, ?_⟩, h.inj⟩
  by_cases e : p = i
  · subst e
    exact hr.congr (fun q hq => by rw [if_pos rfl])
  · exact ((h.row p hp).2.of_block (ho _ (fun e' => e (h.inj p i hp hi e')) (h.row p hp).2.lt)).congr (fun q hq => by rw [if_neg e])
theorem is_rowIs {W : World} {b n : Nat} {f : Nat → Int} (h : W.rowIs b 3 n (fun j => .int .i64 (f j))) (hn : n ≤ maxLen) (hb : ∀ j, j < n → -9223372036854775808 ≤ f j ∧ f j ≤ 9223372036854775807) : Is W (some ⟨b, 0, none⟩) n (mk f n) := by
  refine ⟨by rw [mk_length]; exact Nat.le_refl _, hn, fun e => (by cases e), fun j hj => ⟨b, 0, rfl, h.lt, fun i hi => ?_⟩, mk_bd hb⟩
  rw [mk_length] at hi
  rw [gt_mk, if_pos hi, Nat.zero_add]
  exact h.cell hi
theorem Om.done {B : Nat} {W : World} {g n : Nat} {R : Nat → Nat} {F : Nat → Nat → Int} (h : Om B W g n R F) (hn : n ≤ maxLen) (hb : ∀ i j, i < n → j < n → -9223372036854775808 ≤ F i j ∧ F i j ≤ 9223372036854775807) : Rs W (some ⟨g, 0, none⟩) n (mkR (fun i => Ma.mk (F i) n) n) := by
  refine ⟨by rw [mkR_length]; exact Nat.le_refl _, hn, fun e => (by cases e), fun j hj => ⟨g, 0, rfl, h.lst.lt, fun i hi => ?_⟩⟩
  rw [mkR_length] at hi
  refine ⟨some ⟨R i, 0, none⟩, n, ?_, ?_⟩
  · rw [rw_mkR _ _ _ hi, mk_length, Nat.zero_add]; exact h.lst.cell hi
  · rw [rw_mkR _ _ _ hi]; exact is_rowIs (h.row i hi).2 hn (fun j hj => hb i j hi hj)
/-- Rows of zeros, the first k of them. -/
structure Ob (B : Nat) (W : World) (g n k : Nat) (R : Nat → Nat) : Prop where
  hB : B ≤ g
  lst : W.rowIs g 23 n (fun i => if i < k then .slice (some ⟨R i, 0, none⟩) n n else .slice none 0 0)
  row : ∀ i, i < k → B ≤ R i ∧ W.rowIs (R i) 3 n (fun j => .int .i64 0)
  inj : ∀ i j, i < k → j < k → R i = R j → i = j
theorem Ob.nil (w : World) (n : Nat) (R : Nat → Nat) : Ob w.heap.size (w.alloc (.cells (madeCells #[.slice none 0 0] n) 23)) w.heap.size n 0 R :=
  ⟨Nat.le_refl _, (World.rowIs_made w (.slice none 0 0) n 23).congr (fun i _ => by rw [if_neg (by omega)]), fun i hi => by omega, fun i j hi => by omega⟩
theorem Ob.drew {B : Nat} {W : World} {g n k : Nat} {R : Nat → Nat} (h : Ob B W g n k R) : Ob B W.drew g n k R := ⟨h.hB, h.lst.drew, fun i hi => ⟨(h.row i hi).1, (h.row i hi).2.drew⟩, h.inj⟩
theorem Ob.push {B : Nat} {W : World} {g n k : Nat} {R : Nat → Nat} (h : Ob B W g n k R) (hk : k < n) (hB : B ≤ W.heap.size) : Ob B ((W.alloc (.cells (madeCells #[.int .i64 0] n) 3)).setCell ⟨g, k, none⟩ (.slice (some ⟨W.heap.size, 0, none⟩) n n)) g n (k + 1) (fun i => if i = k then W.heap.size else R i) := by
  have hg := h.lst.lt
  refine ⟨h.hB, ((h.lst.alloc _).set k _).congr (fun i hi => ?_), fun i hi => ?_, fun i j hi hj e => ?_⟩
  · by_cases e : i = k
    · subst e; rw [if_pos rfl, if_pos (by omega), if_pos rfl]
    · rw [if_neg e]
      by_cases l : i < k
      · rw [if_pos l, if_pos (by omega), if_neg e]
      · rw [if_neg l, if_neg (by omega)]
  · by_cases e : i = k
    · subst e
      rw [if_pos rfl]
      exact ⟨hB, (World.rowIs_made W (.int .i64 0) n 3).setOther (by simp; omega) _⟩
    · rw [if_neg e]
      have hi' : i < k := by omega
      refine ⟨(h.row i hi').1, ((h.row i hi').2.alloc _).setOther (fun e' => ?_) _⟩
      have e2 : R i = g := e'
      have := rowIs_ty h.lst (e2 ▸ (h.row i hi').2)
      exact absurd this (by decide)
  · by_cases ei : i = k <;> by_cases ej : j = k
    · omega
    · rw [if_pos ei, if_neg ej] at e
      have := (h.row j (by omega)).2.lt
      omega
    · rw [if_neg ei, if_pos ej] at e
      have := (h.row i (by omega)).2.lt
      omega
    · rw [if_neg ei, if_neg ej] at e
      exact h.inj i j (by omega) (by omega) e
theorem Ob.done {B : Nat} {W : World} {g n : Nat} {R : Nat → Nat} (h : Ob B W g n n R) : Om B W g n R (fun _ _ => 0) :=
  ⟨h.hB, h.lst.congr (fun i hi => by rw [if_pos hi]), h.row, h.inj⟩
/-- A list of rows, made at once, that is filled: k rows lie in it. -/
def Of (B : Nat) (W : World) (g n k : Nat) (F : Nat → List Int) : Prop := B ≤ g ∧ ∃ V : Nat → Value, W.rowIs g 23 n V ∧ ∀ i, i < k → Rw W (V i) (F i)
theorem Of.nil (w : World) (n : Nat) (F : Nat → List Int) : Of w.heap.size (w.alloc (.cells (madeCells #[.slice none 0 0] n) 23)) w.heap.size n 0 F :=
  ⟨Nat.le_refl _, _, World.rowIs_made w (.slice none 0 0) n 23, fun i hi => by omega⟩
theorem Of.mr {B : Nat} {W W' : World} {g n k : Nat} {F : Nat → List Int} (h : Of B W g n k F) (m : Mr W W') : Of B W' g n k F := by
  obtain ⟨hB, V, h1, h2⟩ := h
  exact ⟨hB, V, rowIs_mr h1 m, fun i hi => (h2 i hi).mr m⟩
theorem Rw.set {W : World} {g n : Nat} {V : Nat → Value} {u x : Value} {j : Nat} {l : List Int} (h : Rw W u l) (hg : W.rowIs g 23 n V) : Rw (W.setCell ⟨g, j, none⟩ x) u l := by
  obtain ⟨ra, rc, e, hI, ht⟩ := h
  have key : ∀ b o, ra = some ⟨b, o, none⟩ → (W.setCell ⟨g, j, none⟩ x).heap[b]? = W.heap[b]? := fun b o hb => by
    obtain ⟨cs, fz, hc⟩ := ht b o hb
    refine Go.Deep.blk_setCell_other _ _ _ _ (fun e' => ?_)
    obtain ⟨c, hc', -, -⟩ := hg
    have e2 : b = g := e'
    subst e2
    rw [hc] at hc'
    simp only [Option.some.injEq, Obj.cells.injEq] at hc'
    exact absurd hc'.2.1 (by decide)
  refine ⟨ra, rc, e, is_block hI (by rw [setCell_size]; exact Nat.le_refl _) key, fun b o hb => ?_⟩
  obtain ⟨cs, fz, hc⟩ := ht b o hb
  exact ⟨cs, fz, by rw [key b o hb]; exact hc⟩
theorem Of.push {B : Nat} {W : World} {g n k : Nat} {F : Nat → List Int} {u : Value} (h : Of B W g n k F) (hu : Rw W u (F k)) : Of B (W.setCell ⟨g, k, none⟩ u) g n (k + 1) F := by
  obtain ⟨hB, V, h1, h2⟩ := h
  refine ⟨hB, _, h1.set k u, fun i hi => ?_⟩
  by_cases e : i = k
  · subst e; simp only [if_true]; exact hu.set h1
  · simp only [if_neg e]; exact (h2 i (by omega)).set h1
theorem Of.at' {B : Nat} {W : World} {g n k : Nat} {F : Nat → List Int} (h : Of B W g n k F) {i : Nat} (hi : i < n) : g < W.heap.size ∧ (∃ V, W.cell? ⟨g, i, none⟩ = some V) ∧ W.frozen? ⟨g, i, none⟩ = false := by
  obtain ⟨hB, V, h1, h2⟩ := h
  exact ⟨h1.lt, ⟨_, h1.cell hi⟩, h1.frozen i⟩
theorem Of.done {B : Nat} {W : World} {g n : Nat} {F : Nat → List Int} (h : Of B W g n n F) (hn : n ≤ maxLen) : Rs W (some ⟨g, 0, none⟩) n (mkR F n) := by
  obtain ⟨hB, V, h1, h2⟩ := h
  refine ⟨by rw [mkR_length]; exact Nat.le_refl _, hn, fun e => (by cases e), fun j hj => ⟨g, 0, rfl, h1.lt, fun i hi => ?_⟩⟩
  rw [mkR_length] at hi
  rw [rw_mkR F n i hi, Nat.zero_add]
  obtain ⟨ra, rc, e, hI, -⟩ := h2 i hi
  exact ⟨ra, rc, by rw [h1.cell hi, e], hI⟩
end Ma
end Go.Proofs.Ytkhfkfofggiadaa
/- The contracts of package mat, first part: what lays rows. -/
namespace Go.Proofs.Ytkhfkfofggiadaa
open Go.ChangeShapes Go.WideShapes Go.ChangeAt Go.RowKit Go.Shelf
open Go.Proofs.Ytkhfkfofggiadaa.Fx Go.Proofs.Ytkhfkfofggiadaa.Sl Go.Proofs.Ytkhfkfofggiadaa.Sm
set_option linter.unusedVariables false
attribute [local go_sem] Ext.cell Ext.froz Ext.lt Ext.lt1 Ext.lt2 Ext.lt3 Ext.all Ext.set_u drew_heap setCell_size Ext.set_size
namespace Ma
theorem set_alloc {W : World} {b o : Nat} {v : Value} {ob : Obj} (h : b < W.heap.size) : (W.alloc ob).setCell ⟨b, o, none⟩ v = (W.setCell ⟨b, o, none⟩ v).alloc ob := by simp [go_sem, h]
set_option maxRecDepth 100000 in
set_option maxHeartbeats 2000000 in
/-- So many rows of zeros. -/
theorem blank_c (n : Nat) (w : World) (h6 : n ≤ 6) :
    Calls Try.prog 37 #[.int .i64 n] w fun e w' => ∃ G R, e = .returned (.slice (some ⟨G, 0, none⟩) n n) ∧ ∃ x : Ext w, w' = x.u ∧ Om w.heap.size x.u G n R (fun _ _ => 0) := by
  have hmk1 := run_make_row' (P := Try.prog) 39 23 (.slice none 0 0) 24 Try.underlying39 infoS rfl .i64 .i64 n (by omega) (by omega)
  have hmk2 := run_make_row' (P := Try.prog) 23 3 (.int .i64 0) 8 Try.underlying23 infoI rfl .i64 .i64 n (by omega) (by omega)
  go_enter Try.func37, Try.ntmps37
  go_wp2
  go_loopw [9] (fun i wr => ∃ k : Nat, k ≤ n ∧ i = .int .i64 k ∧ (∃ R, Ob w.heap.size wr w.heap.size n k R) ∧ Mr w wr) (fun i _ => (n - (intOf i).toNat))
  case atStart => exact ⟨0, by omega, rfl, ⟨fun _ => 0, Ob.nil _ _ _⟩, (by repeat (first | (with_reducible exact Mr.refl _) | (with_reducible assumption) | (with_reducible apply Mr.drew) | (with_reducible apply Mr.alloc) | (with_reducible apply Mr.ext) | (with_reducible refine Mr.setCell ?_ (by first | (simp; done) | (simp; omega) | omega | (refine leOf0 ?_; (repeat (first | (with_reducible exact Mr.refl _) | (with_reducible apply Mr.drew) | (with_reducible apply Mr.alloc) | (with_reducible apply Mr.ext) | (with_reducible refine Mr.setCell ?_ (by first | (simp; done) | (simp; omega) | omega) _))); done) | (refine leOf ?_; (repeat (first | (with_reducible exact Mr.refl _) | (with_reducible apply Mr.drew) | (with_reducible apply Mr.alloc) | (with_reducible apply Mr.ext) | (with_reducible refine Mr.setCell ?_ (by first | (simp; done) | (simp; omega) | omega) _))); done)) _)))⟩
  case round =>
    obtain ⟨k, hk, rfl, ⟨R, hO⟩, hm⟩ := hrel
    by_cases hlt : k < n
    · have hlt' : (k : Int) < n := by omega
      have hg := hO.lst.lt
      have hfz := hO.lst.frozen k
      have hcl := hO.lst.cell hlt
      rw [if_neg (by omega)] at hcl
      have hP := hO.push hlt hm.below.size
      rw [set_alloc hg] at hP
      clear hO
      go_wp2
      go_roundw
      case rel => exact ⟨k + 1, by omega, by go_num, ⟨_, hP⟩, (hm.setCell (by simp) _).alloc _⟩
      case measure => simp [intOf]; omega
    · obtain rfl : k = n := by omega
      have hD := hO.done
      go_wp2
      go_ret
      exact ⟨_, _, rfl, ⟨_, hm⟩, rfl, hD⟩
set_option maxHeartbeats 1000000 in
/-- One row, in the memory of the matrix. -/
theorem row_c {a : Option Addr} {c n : Nat} {L : List (List Int)} (w : World) (h : Rs w a c L) (en : L.length = n) (hn9 : n ≤ 6) (i : Nat) (hi : i < n) :
    Calls Try.prog 48 #[.slice a n c, .int .i64 i] w fun e w' => ∃ ra rc, e = .returned (.slice ra (rw' L i).length rc) ∧ ∃ x : Ext w, w' = x.u ∧ Is x.u ra rc (rw' L i) := by
  obtain ⟨b, o, ra, rc, rfl, hb, hc, hI⟩ := h.row i (by omega)
  have hi' : (i : Int) < n := by omega
  obtain ⟨m, hm⟩ : ∃ m, (rw' L i).length = m := ⟨_, rfl⟩
  rw [hm] at hc ⊢
  clear h
  go_enter Try.func48, Try.ntmps48
  go_wp2
  go_ret
  exact ⟨ra, rc, rfl, ⟨_, Mr.refl _⟩, rfl, hI⟩
set_option maxRecDepth 100000 in
set_option maxHeartbeats 2000000 in
/-- One column, as a row. -/
theorem column_c {a : Option Addr} {c n : Nat} {L : List (List Int)} (w : World) (h : Rs w a c L) (en : L.length = n) (h6 : n ≤ 6) (j : Nat) (hj : ∀ k, k < n → j < (rw' L k).length) :
    Calls Try.prog 33 #[.slice a n c, .int .i64 j] w fun e w' => ∃ ra rc, e = .returned (.slice ra n rc) ∧ ∃ x : Ext w, w' = x.u ∧ Is x.u ra rc (col L j) := by
  have hmk2 := run_make_row' (P := Try.prog) 23 3 (.int .i64 0) 8 Try.underlying23 infoI rfl .i64 .i64 n (by omega) (by omega)
  go_enter Try.func33, Try.ntmps33
  go_wp2
  go_loopw [13] (fun i wr => ∃ k : Nat, k ≤ n ∧ i = .int .i64 k ∧ wr.rowIs w.heap.size 3 n (fun p => .int .i64 (if p < k then gt (rw' L p) j else 0)) ∧ Mr w wr) (fun i _ => (n - (intOf i).toNat))
  case atStart => exact ⟨0, by omega, rfl, (World.rowIs_made w (.int .i64 0) n 3).congr (fun i _ => by rw [if_neg (by omega)]), (by repeat (first | (with_reducible exact Mr.refl _) | (with_reducible assumption) | (with_reducible apply Mr.drew) | (with_reducible apply Mr.alloc) | (with_reducible apply Mr.ext) | (with_reducible refine Mr.setCell ?_ (by first | (simp; done) | (simp; omega) | omega | (refine leOf0 ?_; (repeat (first | (with_reducible exact Mr.refl _) | (with_reducible apply Mr.drew) | (with_reducible apply Mr.alloc) | (with_reducible apply Mr.ext) | (with_reducible refine Mr.setCell ?_ (by first | (simp; done) | (simp; omega) | omega) _))); done) | (refine leOf ?_; (repeat (first | (with_reducible exact Mr.refl _) | (with_reducible apply Mr.drew) | (with_reducible apply Mr.alloc) | (with_reducible apply Mr.ext) | (with_reducible refine Mr.setCell ?_ (by first | (simp; done) | (simp; omega) | omega) _))); done)) _)))⟩
  case round =>
    obtain ⟨k, hk, rfl, hO, hm⟩ := hrel
    by_cases hlt : k < n
    · have hlt' : (k : Int) < n := by omega
      obtain ⟨b1, o1, ra, rc, rfl, hb1, hc1, hI⟩ := (h.mr hm).row k (by omega)
      have hjk := hj k hlt
      obtain ⟨b2, o2, rfl, hb2, hc2⟩ := hI.num j hjk
      have hjk' : (j : Int) < ((rw' L k).length : Nat) := by omega
      have hg := hO.lt
      have hfz := hO.frozen k
      have hcl := hO.cell hlt
      have hP : (wr.setCell ⟨w.heap.size, k, none⟩ (.int .i64 (gt (rw' L k) j))).rowIs w.heap.size 3 n (fun p => .int .i64 (if p < k + 1 then gt (rw' L p) j else 0)) := (hO.set k _).congr (fun i hi => by
        by_cases e : i = k
        · subst e; rw [if_pos rfl, if_pos (by omega)]
        · rw [if_neg e]
          by_cases l : i < k
          · rw [if_pos l, if_pos (by omega)]
          · rw [if_neg l, if_neg (by omega)])
      generalize hq : (rw' L k).length = m at *
      generalize hX : gt (rw' L k) j = X at *
      clear h hj hI hq hX hO
      go_wp2
      go_roundw
      case rel => exact ⟨k + 1, by omega, by go_num, hP, hm.setCell (by simp) _⟩
      case measure => simp [intOf]; omega
    · obtain rfl : k = n := by omega
      have hIs : Is wr (some ⟨w.heap.size, 0, none⟩) k (col L j) := by
        rw [col_mk, en]
        exact is_rowIs (hO.congr (fun i hi => by rw [if_pos hi])) (by unfold maxLen; omega) (fun q hq => by obtain ⟨b1, o1, ra, rc, e, hb1, hc1, hI⟩ := h.row q (by omega); exact hI.bd j)
      clear h hj hO
      go_wp2
      go_ret
      exact ⟨_, _, rfl, ⟨_, hm⟩, rfl, hIs⟩
theorem is_src {W : World} {ra : Option Addr} {rc : Nat} {l : List Int} (h : Is W ra rc l) (hn : 0 < l.length) : ∃ b o, ra = some ⟨b, o, none⟩ ∧ ∀ j v, (l.map (Value.int .i64))[j]? = some v → W.cell? ((⟨b, o, none⟩ : Addr).add j) = some v := by
  obtain ⟨b, o, e, hb, hc⟩ := h.at' 0 hn
  refine ⟨b, o, e, fun j v hv => ?_⟩
  rw [List.getElem?_map] at hv
  by_cases hj : j < l.length
  · rw [List.getElem?_eq_getElem hj] at hv
    simp only [Option.map_some, Option.some.injEq] at hv
    have e2 : l[j] = gt l j := by unfold gt; rw [List.getD_eq_getElem?_getD, List.getElem?_eq_getElem hj]; rfl
    rw [← hv, e2]
    rw [show (⟨b, o, none⟩ : Addr).add j = ⟨b, o + j, none⟩ by unfold Addr.add; split <;> simp_all]
    exact hc j hj
  · rw [List.getElem?_eq_none (by omega)] at hv
    cases hv
theorem gt_at {l : List Int} {j : Nat} (hj : j < l.length) : l[j] = gt l j := by
  unfold gt
  rw [List.getD_eq_getElem?_getD, List.getElem?_eq_getElem hj]; rfl
/-- A list copied over a whole row. -/
theorem om_copy {B : Nat} {w0 W : World} {g n b o rc : Nat} {R : Nat → Nat} {F : Nat → Nat → Int} (h : Om B W g n R F) (i : Nat) (hi : i < n) (l : List Int) (hl : l.length = n) (hm : Below B w0 W)
    (hsrc : ∀ j v, (l.map (Value.int .i64))[j]? = some v → W.cell? ((⟨b, o, none⟩ : Addr).add j) = some v) :
    ∃ W2, (Builtin.copy_ #[23, 23] 3 #[.slice (some ⟨R i, 0, none⟩) n n, .slice (some ⟨b, o, none⟩) n rc]).run Try.prog W = .ok (goInt n) W2 ∧ Om B W2 g n R (fun p q => if p = i then gt l q else F p q) ∧ Below B w0 W2 := by
  obtain ⟨hRB, c, hc, hn, -⟩ := h.row i hi
  have hln : (l.map (Value.int .i64)).length = n := by rw [List.length_map]; exact hl
  have hrun := run_copy_row (P := Try.prog) W 23 23 3 3 (R i) 0 n n ⟨b, o, none⟩ n rc c 3 (l.map (Value.int .i64)) Try.underlying23 (by kernel_rfl) hc (by rw [hln]; exact (Nat.min_self n).symm) hsrc (by rw [hln]; omega) (by intro v hv; rw [List.mem_map] at hv; obtain ⟨z, -, rfl⟩ := hv; rfl)
  have e : c.toList.take 0 ++ l.map (Value.int .i64) ++ c.toList.drop (0 + (l.map (Value.int .i64)).length) = l.map (Value.int .i64) := by
    rw [List.take_zero, List.nil_append, List.drop_of_length_le (by rw [hln, Array.length_toList]; omega), List.append_nil]
  rw [e, hln] at hrun
  refine ⟨_, hrun, ?_, below_setRow hm hRB _⟩
  refine h.rowSet i hi (gt l) ⟨_, setRow_heap W _ _ _ _ _ hc, by simpa using hl, fun j hj => ?_⟩ (fun b hb _ => setRow_other W _ _ _ hb)
  rw [List.getElem?_toArray, List.getElem?_map, List.getElem?_eq_getElem (by omega), Option.map_some, gt_at]
set_option maxRecDepth 100000 in
set_option maxHeartbeats 2000000 in
/-- The matrix of so many rows that are copied from what a method value tells of each place. -/
theorem lined_c (g : Nat) (eg : ∀ args w, (callFunc g args).run Try.prog w = .ok (.enter g args) w) (recv : Value) (Lf : Nat → List Int) (n : Nat) (h6 : n ≤ 6) (w : World) (hl : ∀ i, i < n → (Lf i).length = n)
    (hc : ∀ W : World, Mr w W → ∀ i : Nat, i < n → Calls Try.prog g #[recv, .int .i64 i] W fun e w' => ∃ ra rc, e = .returned (.slice ra n rc) ∧ ∃ x : Ext W, w' = x.u ∧ Is x.u ra rc (Lf i)) :
    Calls Try.prog 32 #[.int .i64 n, .func (.func g) #[recv] #[]] w fun e w' => ∃ G R, e = .returned (.slice (some ⟨G, 0, none⟩) n n) ∧ ∃ x : Ext w, w' = x.u ∧ Om w.heap.size x.u G n R (fun i j => gt (Lf i) j) := by
  go_enter Try.func32, Try.ntmps32
  go_wp2_with (first | (go_at_call 37; refine (blank_c n _ h6).mono ?_; rintro e w' ⟨G, R, rfl, x, rfl, hO⟩; have hm0 := x.h; generalize x.u = W0 at *; clear x))
  go_loopw [12] (fun i wr => ∃ k : Nat, k ≤ n ∧ i = .int .i64 k ∧ Om w.heap.size wr G n R (fun i j => if i < k then gt (Lf i) j else 0) ∧ Mr w wr) (fun i _ => (n - (intOf i).toNat))
  case atStart => exact ⟨0, by omega, rfl, hO.congr (fun i j _ _ => by rw [if_neg (by omega)]), hm0⟩
  case round =>
    clear hO hm0
    obtain ⟨k, hk, rfl, hO, hm⟩ := hrel
    have hcall := hc
    clear hc
    by_cases hlt : k < n
    · have hlt' : (k : Int) < n := by omega
      obtain ⟨hg, hRk, hRl, hcl⟩ := hO.at' k hlt
      go_wp2_with (first | (go_at_fn g; refine (hcall wr hm k hlt).mono ?_; rintro e w' ⟨ra, rc, rfl, x, rfl, hI⟩; have hm1 := hm.trans x.h; have hO1 := hO.mr x.h; generalize x.u = W1 at *; clear x; obtain ⟨b, o, rfl, hsrc⟩ := is_src hI (by have := hl k hlt; omega); obtain ⟨W2, hcp, hO2, hB2⟩ := om_copy (rc := rc) hO1 k hlt (Lf k) (hl k hlt) hm1.below hsrc; clear hO1 hsrc hI))
      go_roundw
      case rel => exact ⟨k + 1, by omega, by go_num, hO2.congr (fun i j _ _ => by by_cases e : i = k; (subst e; rw [if_pos rfl, if_pos (by omega)]); (rw [if_neg e]; by_cases l : i < k; (rw [if_pos l, if_pos (by omega)]); rw [if_neg l, if_neg (by omega)])), ⟨hB2⟩⟩
      case measure => simp [intOf]; omega
    · obtain rfl : k = n := by omega
      have hD := hO.congr (G := fun i j => gt (Lf i) j) (fun i j hi _ => by rw [if_pos hi])
      clear hO hcall
      go_wp2
      go_ret
      exact ⟨_, _, rfl, ⟨_, hm⟩, rfl, hD⟩
end Ma
end Go.Proofs.Ytkhfkfofggiadaa
