/- The contracts of the document's own answers of layer 12, last part: what is the same, what is few. -/
import Derived.Test.YtnbejkhcifeeiaaRefC30
import Derived.Test.YtnbejkhcifeeiaaTaskS2
import Derived.ChangeKeysEq
namespace Go.Proofs.Ytnbejkhcifeeiaa
open Go.ChangeShapes Go.WideShapes Go.ChangeAt Go.RowKit
set_option linter.unusedVariables false
set_option linter.unusedSimpArgs false
attribute [local go_sem] Ext.cell Ext.froz Ext.lt Ext.lt1 Ext.lt2 Ext.lt3 Ext.all drew_heap setCell_size Ext.set_size
attribute [-go_sem] Instr.build loadCells
namespace Tk
open Wl Ce Rw
theorem infoU8 : (Try.prog.info? 24).map (·.size) = some 1 := by kernel_rfl
/-- Rows of words compared. -/
theorem eq_words (xs ys : List Int) (hx : xs.length = 32) (hy : ys.length = 32) (w : World) : (Op.equalIn 10000 25 (.agg (xs.map (Value.int .u64)).toArray) (.agg (ys.map (Value.int .u64)).toArray)).run Try.prog w = .ok (decide (xs = ys)) w := by
  obtain ⟨i0, hi, hs⟩ := Option.map_eq_some_iff.1 infoU8
  rw [run_equalIn_array w 9999 _ _ Try.underlying25 hi]
  have hc : Try.prog.cellsOf 24 = 1 := by kernel_rfl
  rw [hc]
  have key : ∀ is : List Nat, (∀ i ∈ is, i < 32) → (Op.eqItems 9999 24 1 (xs.map (Value.int .u64)).toArray (ys.map (Value.int .u64)).toArray is).run Try.prog w = .ok (is.all (fun i => gt xs i == gt ys i)) w := by
    intro is h
    induction is with
    | nil => simp [Op.eqItems]
    | cons i is ih =>
      have hi : i < 32 := h i (by simp)
      have px : ∀ l : List Int, l.length = 32 → (part 24 (l.map (Value.int .u64)).toArray (i * 1)).run Try.prog w = .ok (.int .u64 (gt l i)) w := fun l hl => by
        simp [part, isAgg, run_underlying Try.underlying24, gt, List.getD, List.getElem?_eq_getElem (show i < l.length by omega)]
      have pe : (Op.equalIn 9999 24 (.int .u64 (gt xs i)) (.int .u64 (gt ys i))).run Try.prog w = .ok (gt xs i == gt ys i) w := run_equalIn_int w 9998 _ .u64 .u64 _ _ Try.underlying24
      simp only [Op.eqItems, Sem.run_bind, px xs hx, px ys hy, pe, Result.andThen_ok, List.all_cons]
      cases hb : (gt xs i == gt ys i)
      · simp
      · simp only [Bool.not_true, Bool.false_eq_true, if_false, Bool.true_and]
        exact ih (fun j hj => h j (by simp [hj]))
  rw [key _ (fun i hi => List.mem_range.1 hi)]
  congr 1
  rw [Bool.eq_iff_iff, List.all_eq_true, decide_eq_true_iff]
  constructor
  · intro h
    exact list_eq (hx.trans hy.symm) (fun j hj => by simpa using h j (List.mem_range.2 (by omega)))
  · intro h
    subst h
    simp
attribute [local go_sem ↓] eq_words
theorem range_R {w : World} {B : Nat} {a : Option Addr} {c : Nat} {t : T} (h : Row w B 27 (TV a c t)) (hl : t.R.length = 32) : w.rangeAt B 2 (t.R.map (Value.int .u64)) := fun j v hv => by
  have hj : j < 32 := by
    have := (List.getElem?_eq_some_iff.1 hv).1
    rwa [List.length_map, hl] at this
  rw [h.cell, TV_R hl hj, ← hv, List.getElem?_map, List.getElem?_eq_getElem (by omega)]
  unfold gt
  rw [List.getD_eq_getElem?_getD, List.getElem?_eq_getElem (by omega)]
  rfl
def eqi (a b c d e a' b' c' d' e' : Int) : Bool := decide (a = a' ∧ b = b' ∧ c = c' ∧ d = d' ∧ e = e')
theorem eq_ins (a b c d e a' b' c' d' e' : Int) (w : World) : (Op.equalIn 10000 53 (.agg #[.int .i64 a, .int .i64 b, .int .i64 c, .int .i64 d, .int .u64 e]) (.agg #[.int .i64 a', .int .i64 b', .int .i64 c', .int .i64 d', .int .u64 e'])).run Try.prog w = .ok (eqi a b c d e a' b' c' d' e') w := by
  by_cases h1 : a = a'
  · by_cases h2 : b = b'
    · by_cases h3 : c = c'
      · by_cases h4 : d = d'
        · by_cases h5 : e = e' <;> simp [go_sem, eqi, h1, h2, h3, h4, h5]
        · simp [go_sem, eqi, h1, h2, h3, h4]
      · simp [go_sem, eqi, h1, h2, h3]
    · simp [go_sem, eqi, h1, h2]
  · simp [go_sem, eqi, h1]
attribute [local go_sem ↓] eq_ins
theorem eqi_of (x y : Ins) : eqi x.k x.i x.r x.go x.a y.k y.i y.r y.go y.a = decide (x = y) := by
  unfold eqi
  rw [decide_eq_decide]
  cases x; cases y; simp
theorem ins_cells {w W : World} {a : Option Addr} {c : Nat} {l : List Ins} (h : Inss w a c l) (m : Mr w W) (j : Nat) (hj : j < l.length) : ∃ b o, a = some ⟨b, o, none⟩ ∧ ∀ x : Ext W, (loadCells ⟨b, o + j * 5, none⟩ 5).run Try.prog x.u = .ok #[.int .i64 (at' l j).k, .int .i64 (at' l j).i, .int .i64 (at' l j).r, .int .i64 (at' l j).go, .int .u64 (at' l j).a] x.u := by
  obtain ⟨b, o, k, i, r, g, p, e, hb, hx, -⟩ := h.num j hj
  refine ⟨b, o, e, fun x => ?_⟩
  obtain ⟨b', o', k', i', r', g', p', e', hb', hx', -, c0, c1, c2, c3, c4⟩ := ((h.mr m).mr x.h).num j hj
  rw [e] at e'
  simp only [Option.some.injEq, Addr.mk.injEq] at e'
  obtain ⟨rfl, rfl, -⟩ := e'
  rw [hx']
  have := run_loadCells_list (P := Try.prog) x.u ⟨b, o + j * 5, none⟩ [.int .i64 k', .int .i64 i', .int .i64 r', .int .i64 g', .int .u64 p'] (fun q v hv => by
    rw [Addr.add_mid]
    match q, hv with
    | 0, hv => simp at hv; subst hv; exact c0
    | 1, hv => simp at hv; subst hv; exact c1
    | 2, hv => simp at hv; subst hv; exact c2
    | 3, hv => simp at hv; subst hv; exact c3
    | 4, hv => simp at hv; subst hv; exact c4
    | q + 5, hv => simp at hv)
  exact this
theorem code_eq {l m : List Ins} (hn : l.length = m.length) (h : ∀ j, j < l.length → at' l j = at' m j) : l = m := by
  apply List.ext_getElem?
  intro j
  by_cases hj : j < l.length
  · have := h j hj
    unfold at' at this
    rw [List.getD_eq_getElem?_getD, List.getElem?_eq_getElem hj, List.getD_eq_getElem?_getD, List.getElem?_eq_getElem (by omega)] at this
    rw [List.getElem?_eq_getElem hj, List.getElem?_eq_getElem (by omega)]
    simpa using this
  · rw [List.getElem?_eq_none (by omega), List.getElem?_eq_none (by omega)]
theorem te_cells {w W : World} {a : Option Addr} {c : Nat} {L : List Te} (h : Tes w a c L) (m : Mr w W) (j : Nat) (hj : j < L.length) : ∃ b o X, a = some ⟨b, o, none⟩ ∧ L[j]? = some X ∧ Te.is w X ∧ ∀ x : Ext W, (loadCells ⟨b, o + j * 36, none⟩ 36).run Try.prog x.u = .ok (TV X.ca X.cc X.t) x.u := by
  obtain ⟨b, o, e, hb, -⟩ := h.range (List.getElem?_eq_getElem hj)
  refine ⟨b, o, L[j], e, List.getElem?_eq_getElem hj, h.2 _ (List.getElem_mem hj), fun x => ?_⟩
  obtain ⟨b', o', e', hb', hr⟩ := ((h.mr m).mr x.h).range (List.getElem?_eq_getElem hj)
  rw [e] at e'
  simp only [Option.some.injEq, Addr.mk.injEq] at e'
  obtain ⟨rfl, rfl, -⟩ := e'
  have hl : (TV L[j].ca L[j].cc L[j].t).toList.length = 36 := by rw [Array.length_toList]; exact TV_size (h.2 _ (List.getElem_mem hj)).2.len
  have := run_loadCells_list (P := Try.prog) x.u ⟨b, o + j * 36, none⟩ (TV L[j].ca L[j].cc L[j].t).toList (fun q v hv => by rw [Addr.add_mid]; exact hr q v hv)
  rw [hl, Array.toArray_toList] at this
  exact this
theorem map_at {L M : List Te} {j : Nat} {X Y : Te} (hL : L[j]? = some X) (hM : M[j]? = some Y) (e : L.map Te.t = M.map Te.t) : X.t = Y.t := by
  have := congrArg (·[j]?) e
  simp only [List.getElem?_map, hL, hM, Option.map_some, Option.some.injEq] at this
  exact this
def few (L : List T) : Bool := L.all (fun t => decide (t.code.length ≤ 210)) && decide (L.length ≤ 12)
theorem code_cell {w : World} {a : Option Addr} {c : Nat} {L : List Te} (h : Tes w a c L) (j : Nat) (hj : j < L.length) : ∃ b o X, a = some ⟨b, o, none⟩ ∧ b < w.heap.size ∧ L[j]? = some X ∧ w.cell? ⟨b, o + j * 36, none⟩ = some (.slice X.ca X.t.code.length X.cc) := by
  obtain ⟨b, o, X, e, hb, hX, hc⟩ := h.1.num j hj
  refine ⟨b, o, X, e, hb, hX, ?_⟩
  have := hc 0 (by omega)
  rw [Nat.add_zero] at this
  rw [this]
  unfold Te.enc
  rw [TV_0]; rfl
end Tk
end Go.Proofs.Ytnbejkhcifeeiaa
