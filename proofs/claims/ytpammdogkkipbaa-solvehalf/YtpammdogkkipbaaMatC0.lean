/- Matrices that a call lays in memory of its own. -/
import Derived.Test.YtpammdogkkipbaaRefC16
import Derived.Deep.OwnRows
import Derived.Laws.CopyOwn
namespace Go.Proofs.Ytpammdogkkipbaa
open Go.ChangeShapes Go.WideShapes Go.ChangeAt Go.RowKit
open Go.Proofs.Ytpammdogkkipbaa.Fx Go.Proofs.Ytpammdogkkipbaa.Sl Go.Proofs.Ytpammdogkkipbaa.Sm
set_option linter.unusedVariables false
namespace Ma
theorem rowIs_ty {W : World} {b t t' n n' : Nat} {f f' : Nat → Value} (h : W.rowIs b t n f) (h' : W.rowIs b t' n' f') : t = t' := by
  obtain ⟨c, hb, -, -⟩ := h
  obtain ⟨c', hb', -, -⟩ := h'
  rw [hb] at hb'
  simp only [Option.some.injEq, Obj.cells.injEq] at hb'
  exact hb'.2.1
theorem rowIs_mr {W W' : World} {b t n : Nat} {f : Nat → Value} (h : W.rowIs b t n f) (m : Mr W W') : W'.rowIs b t n f := h.of_block (m.below.block b h.lt)
/-- A matrix in memory of its own: the list of its rows at g, row i at R i. -/
structure Om (B : Nat) (W : World) (g n : Nat) (R : Nat → Nat) (F : Nat → Nat → Int) : Prop where
  hB : B ≤ g
  lst : W.rowIs g 23 n (fun i => .slice (some ⟨R i, 0, none⟩) n n)
  row : ∀ i, i < n → B ≤ R i ∧ W.rowIs (R i) 3 n (fun j => .int .i64 (F i j))
  inj : ∀ i j, i < n → j < n → R i = R j → i = j
theorem Om.mr {B : Nat} {W W' : World} {g n : Nat} {R : Nat → Nat} {F : Nat → Nat → Int} (h : Om B W g n R F) (m : Mr W W') : Om B W' g n R F :=
  ⟨h.hB, rowIs_mr h.lst m, fun i hi => ⟨(h.row i hi).1, rowIs_mr (h.row i hi).2 m⟩, h.inj⟩
theorem Om.congr {B : Nat} {W : World} {g n : Nat} {R : Nat → Nat} {F G : Nat → Nat → Int} (h : Om B W g n R F) (e : ∀ i j, i < n → j < n → F i j = G i j) : Om B W g n R G :=
  ⟨h.hB, h.lst, fun i hi => ⟨(h.row i hi).1, (h.row i hi).2.congr (fun j hj => by rw [e i j hi hj])⟩, h.inj⟩
theorem Om.mono {B B' : Nat} {W : World} {g n : Nat} {R : Nat → Nat} {F : Nat → Nat → Int} (h : Om B W g n R F) (e : B' ≤ B) : Om B' W g n R F :=
  ⟨Nat.le_trans e h.hB, h.lst, fun i hi => ⟨Nat.le_trans e (h.row i hi).1, (h.row i hi).2⟩, h.inj⟩
theorem Om.ne {B : Nat} {W : World} {g n : Nat} {R : Nat → Nat} {F : Nat → Nat → Int} (h : Om B W g n R F) (i : Nat) (hi : i < n) : g ≠ R i := fun e => by
  have := rowIs_ty h.lst (e ▸ (h.row i hi).2)
  exact absurd this (by decide)
/-- A row's own place, and what lies there. -/
theorem Om.at' {B : Nat} {W : World} {g n : Nat} {R : Nat → Nat} {F : Nat → Nat → Int} (h : Om B W g n R F) (i : Nat) (hi : i < n) : g < W.heap.size ∧ B ≤ R i ∧ R i < W.heap.size ∧ W.cell? ⟨g, i, none⟩ = some (.slice (some ⟨R i, 0, none⟩) n n) :=
  ⟨h.lst.lt, (h.row i hi).1, (h.row i hi).2.lt, h.lst.cell hi⟩
theorem Om.num {B : Nat} {W : World} {g n : Nat} {R : Nat → Nat} {F : Nat → Nat → Int} (h : Om B W g n R F) (i j : Nat) (hi : i < n) (hj : j < n) : W.cell? ⟨R i, j, none⟩ = some (.int .i64 (F i j)) ∧ W.frozen? ⟨R i, j, none⟩ = false :=
  ⟨(h.row i hi).2.cell hj, (h.row i hi).2.frozen j⟩
/-- A number written. -/
def up (F : Nat → Nat → Int) (i j : Nat) (X : Int) : Nat → Nat → Int := fun p q => if p = i ∧ q = j then X else F p q
theorem Om.set {B : Nat} {W : World} {g n : Nat} {R : Nat → Nat} {F : Nat → Nat → Int} (h : Om B W g n R F) (i j : Nat) (hi : i < n) (X : Int) : Om B (W.setCell ⟨R i, j, none⟩ (.int .i64 X)) g n R (up F i j X) := by
  refine ⟨h.hB, h.lst.setOther (h.ne i hi) _, fun p hp => ⟨(h.row p hp).1, ?_⟩, h.inj⟩
  by_cases e : p = i
  · subst e
    exact ((h.row p hp).2.set j _).congr (fun q hq => by unfold up; by_cases e : q = j <;> simp [e])
  · exact ((h.row p hp).2.setOther (fun e' => e (h.inj p i hp hi e')) _).congr (fun q hq => by unfold up; simp [e])
/-- A row written whole. -/
theorem Om.rowSet {B : Nat} {W W' : World} {g n : Nat} {R : Nat → Nat} {F : Nat → Nat → Int} (h : Om B W g n R F) (i : Nat) (hi : i < n) (f : Nat → Int) (hr : W'.rowIs (R i) 3 n (fun j => .int .i64 (f j))) (ho : ∀ b, b ≠ R i → b < W.heap.size → W'.heap[b]? = W.heap[b]?) : Om B W' g n R (fun p q => if p = i then f q else F p q) := by
  refine ⟨h.hB, h.lst.of_block (ho g (h.ne i hi) h.lst.lt), fun p hp => ⟨(h.row p hp).1, ?_⟩, h.inj⟩
  by_cases e : p = i
  · subst e
    exact hr.congr (fun q hq => by rw [if_pos rfl])
  · exact ((h.row p hp).2.of_block (ho _ (fun e' => e (h.inj p i hp hi e')) (h.row p hp).2.lt)).congr (fun q hq => by rw [if_neg e])
theorem is_rowIs {W : World} {b n : Nat} {f : Nat → Int} (h : W.rowIs b 3 n (fun j => .int .i64 (f j))) (hn : n ≤ maxLen) (hb : ∀ j, j < n → -9223372036854775808 ≤ f j ∧ f j ≤ 9223372036854775807) : Is W (some ⟨b, 0, none⟩) n (mk f n) := by
  refine ⟨by rw [mk_length]; exact Nat.le_refl _, hn, fun e => (by cases e), fun j hj => ⟨b, 0, rfl, h.lt, fun i hi => ?_⟩, mk_bd hb⟩
  rw [mk_length] at hi
  rw [gt_mk, if_pos hi, Nat.zero_add]
  exact h.cell hi
theorem Om.done {B : Nat} {W : World} {g n : Nat} {R : Nat → Nat} {F : Nat → Nat → Int} (h : Om B W g n R F) (hn : n ≤ maxLen) (hb : ∀ i j, i < n → j < n → -9223372036854775808 ≤ F i j ∧ F i j ≤ 9223372036854775807) : Rs W (some ⟨g, 0, none⟩) n (mkR (fun i => Ma.mk (F i) n) n) := by
  refine ⟨by rw [mkR_length]; exact Nat.le_refl _, hn, fun e => (by cases e), fun j hj => ⟨g, 0, rfl, h.lst.lt, fun i hi => ?_⟩⟩
  rw [mkR_length] at hi
  refine ⟨some ⟨R i, 0, none⟩, n, ?_, ?_⟩
  · rw [rw_mkR _ _ _ hi, mk_length, Nat.zero_add]; exact h.lst.cell hi
  · rw [rw_mkR _ _ _ hi]; exact is_rowIs (h.row i hi).2 hn (fun j hj => hb i j hi hj)
/-- Rows of zeros, the first k of them. -/
structure Ob (B : Nat) (W : World) (g n k : Nat) (R : Nat → Nat) : Prop where
  hB : B ≤ g
  lst : W.rowIs g 23 n (fun i => if i < k then .slice (some ⟨R i, 0, none⟩) n n else .slice none 0 0)
  row : ∀ i, i < k → B ≤ R i ∧ W.rowIs (R i) 3 n (fun j => .int .i64 0)
  inj : ∀ i j, i < k → j < k → R i = R j → i = j
theorem Ob.nil (w : World) (n : Nat) (R : Nat → Nat) : Ob w.heap.size (w.alloc (.cells (madeCells #[.slice none 0 0] n) 23)) w.heap.size n 0 R :=
  ⟨Nat.le_refl _, (World.rowIs_made w (.slice none 0 0) n 23).congr (fun i _ => by rw [if_neg (by omega)]), fun i hi => by omega, fun i j hi => by omega⟩
theorem Ob.drew {B : Nat} {W : World} {g n k : Nat} {R : Nat → Nat} (h : Ob B W g n k R) : Ob B W.drew g n k R := ⟨h.hB, h.lst.drew, fun i hi => ⟨(h.row i hi).1, (h.row i hi).2.drew⟩, h.inj⟩
theorem Ob.push {B : Nat} {W : World} {g n k : Nat} {R : Nat → Nat} (h : Ob B W g n k R) (hk : k < n) (hB : B ≤ W.heap.size) : Ob B ((W.alloc (.cells (madeCells #[.int .i64 0] n) 3)).setCell ⟨g, k, none⟩ (.slice (some ⟨W.heap.size, 0, none⟩) n n)) g n (k + 1) (fun i => if i = k then W.heap.size else R i) := by
  have hg := h.lst.lt
  refine ⟨h.hB, ((h.lst.alloc _).set k _).congr (fun i hi => ?_), fun i hi => ?_, fun i j hi hj e => ?_⟩
  · by_cases e : i = k
    · subst e; rw [if_pos rfl, if_pos (by omega), if_pos rfl]
    · rw [if_neg e]
      by_cases l : i < k
      · rw [if_pos l, if_pos (by omega), if_neg e]
      · rw [if_neg l, if_neg (by omega)]
  · by_cases e : i = k
    · subst e
      rw [if_pos rfl]
      exact ⟨hB, (World.rowIs_made W (.int .i64 0) n 3).setOther (by simp; omega) _⟩
    · rw [if_neg e]
      have hi' : i < k := by omega
      refine ⟨(h.row i hi').1, ((h.row i hi').2.alloc _).setOther (fun e' => ?_) _⟩
      have e2 : R i = g := e'
      have := rowIs_ty h.lst (e2 ▸ (h.row i hi').2)
      exact absurd this (by decide)
  · by_cases ei : i = k <;> by_cases ej : j = k
    · omega
    · rw [if_pos ei, if_neg ej] at e
      have := (h.row j (by omega)).2.lt
      omega
    · rw [if_neg ei, if_pos ej] at e
      have := (h.row i (by omega)).2.lt
      omega
    · rw [if_neg ei, if_neg ej] at e
      exact h.inj i j (by omega) (by omega) e
theorem Ob.done {B : Nat} {W : World} {g n : Nat} {R : Nat → Nat} (h : Ob B W g n n R) : Om B W g n R (fun _ _ => 0) :=
  ⟨h.hB, h.lst.congr (fun i hi => by rw [if_pos hi]), h.row, h.inj⟩
/-- A list of rows, made at once, that is filled: k rows lie in it. -/
def Of (B : Nat) (W : World) (g n k : Nat) (F : Nat → List Int) : Prop := B ≤ g ∧ ∃ V : Nat → Value, W.rowIs g 23 n V ∧ ∀ i, i < k → Rw W (V i) (F i)
theorem Of.nil (w : World) (n : Nat) (F : Nat → List Int) : Of w.heap.size (w.alloc (.cells (madeCells #[.slice none 0 0] n) 23)) w.heap.size n 0 F :=
  ⟨Nat.le_refl _, _, World.rowIs_made w (.slice none 0 0) n 23, fun i hi => by omega⟩
theorem Of.mr {B : Nat} {W W' : World} {g n k : Nat} {F : Nat → List Int} (h : Of B W g n k F) (m : Mr W W') : Of B W' g n k F := by
  obtain ⟨hB, V, h1, h2⟩ := h
  exact ⟨hB, V, rowIs_mr h1 m, fun i hi => (h2 i hi).mr m⟩
theorem Rw.set {W : World} {g n : Nat} {V : Nat → Value} {u x : Value} {j : Nat} {l : List Int} (h : Rw W u l) (hg : W.rowIs g 23 n V) : Rw (W.setCell ⟨g, j, none⟩ x) u l := by
  obtain ⟨ra, rc, e, hI, ht⟩ := h
  have key : ∀ b o, ra = some ⟨b, o, none⟩ → (W.setCell ⟨g, j, none⟩ x).heap[b]? = W.heap[b]? := fun b o hb => by
    obtain ⟨cs, fz, hc⟩ := ht b o hb
    refine Go.Deep.blk_setCell_other _ _ _ _ (fun e' => ?_)
    obtain ⟨c, hc', -, -⟩ := hg
    have e2 : b = g := e'
    subst e2
    rw [hc] at hc'
    simp only [Option.some.injEq, Obj.cells.injEq] at hc'
    exact absurd hc'.2.1 (by decide)
  refine ⟨ra, rc, e, is_block hI (by rw [setCell_size]; exact Nat.le_refl _) key, fun b o hb => ?_⟩
  obtain ⟨cs, fz, hc⟩ := ht b o hb
  exact ⟨cs, fz, by rw [key b o hb]; exact hc⟩
theorem Of.push {B : Nat} {W : World} {g n k : Nat} {F : Nat → List Int} {u : Value} (h : Of B W g n k F) (hu : Rw W u (F k)) : Of B (W.setCell ⟨g, k, none⟩ u) g n (k + 1) F := by
  obtain ⟨hB, V, h1, h2⟩ := h
  refine ⟨hB, _, h1.set k u, fun i hi => ?_⟩
  by_cases e : i = k
  · subst e; simp only [if_true]; exact hu.set h1
  · simp only [if_neg e]; exact (h2 i (by omega)).set h1
theorem Of.at' {B : Nat} {W : World} {g n k : Nat} {F : Nat → List Int} (h : Of B W g n k F) {i : Nat} (hi : i < n) : g < W.heap.size ∧ (∃ V, W.cell? ⟨g, i, none⟩ = some V) ∧ W.frozen? ⟨g, i, none⟩ = false := by
  obtain ⟨hB, V, h1, h2⟩ := h
  exact ⟨h1.lt, ⟨_, h1.cell hi⟩, h1.frozen i⟩
theorem Of.done {B : Nat} {W : World} {g n : Nat} {F : Nat → List Int} (h : Of B W g n n F) (hn : n ≤ maxLen) : Rs W (some ⟨g, 0, none⟩) n (mkR F n) := by
  obtain ⟨hB, V, h1, h2⟩ := h
  refine ⟨by rw [mkR_length]; exact Nat.le_refl _, hn, fun e => (by cases e), fun j hj => ⟨g, 0, rfl, h1.lt, fun i hi => ?_⟩⟩
  rw [mkR_length] at hi
  rw [rw_mkR F n i hi, Nat.zero_add]
  obtain ⟨ra, rc, e, hI, -⟩ := h2 i hi
  exact ⟨ra, rc, by rw [h1.cell hi, e], hI⟩
end Ma
end Go.Proofs.Ytpammdogkkipbaa
