/- Instructions, tasks, and lists of them and of lists of words, as arguments. -/
import Derived.Test.YtnbejkhcifeeiaaLvR
import Derived.Test.YtnbejkhcifeeiaaAccR
import Derived.Test.YtnbejkhcifeeiaaTaskS2
import Derived.Test.YtnbejkhcifeeiaaSumS
import Derived.WalkKit
import Derived.ProofKit
import Derived.OpenShut
namespace Go.Proofs.Ytnbejkhcifeeiaa
open Go.ChangeShapes Go.WideShapes Go.ChangeAt Go.RowKit
set_option linter.unusedVariables false
namespace Tk
open Wl Ce
section
variable {H : Type} {enc : TypeId × Value → H} {P : Program} {w : World} {base : Nat} {spare : Nat → Bool} {held : Bool}
theorem trod_struct5 {t : TypeId} {f0 f1 f2 f3 f4 : Field} {fuel : Nat} {cs : List Value} {x : DataW H × List MemPlace} (ht : P.underlying t = some (.struct #[f0, f1, f2, f3, f4])) (h : DataW.trod enc P w base spare held fuel t cs = some x) :
    ∃ y0 y1 y2 y3 y4 n, cs.length = P.cellsOf t ∧ DataW.trod enc P w base spare held n f0.type ((cs.drop f0.offset).take (P.cellsOf f0.type)) = some y0 ∧
      DataW.trod enc P w base spare held n f1.type ((cs.drop f1.offset).take (P.cellsOf f1.type)) = some y1 ∧ DataW.trod enc P w base spare held n f2.type ((cs.drop f2.offset).take (P.cellsOf f2.type)) = some y2 ∧
      DataW.trod enc P w base spare held n f3.type ((cs.drop f3.offset).take (P.cellsOf f3.type)) = some y3 ∧ DataW.trod enc P w base spare held n f4.type ((cs.drop f4.offset).take (P.cellsOf f4.type)) = some y4 := by
  obtain ⟨xs, n, _, rfl, hl, hlen, hf⟩ := DataW.trod_struct ht h
  match xs, hlen with
  | [y0, y1, y2, y3, y4], _ => exact ⟨y0, y1, y2, y3, y4, n, hl, by simpa using hf 0 f0 rfl, by simpa using hf 1 f1 rfl, by simpa using hf 2 f2 rfl, by simpa using hf 3 f3 rfl, by simpa using hf 4 f4 rfl⟩
end
variable {H : Type} {enc' : TypeId × Value → H} {W : World} {base : Nat} {sp : Nat → Bool}
theorem cells_ins {cs : List Value} {fuel : Nat} {x : DataW H × List MemPlace} (h : DataW.trod enc' Try.prog W base sp true fuel 53 cs = some x) (hl : cs.length = 5) :
    ∃ k i r g a : Int, cs = [.int .i64 k, .int .i64 i, .int .i64 r, .int .i64 g, .int .u64 a] ∧ Ins.ok ⟨k, i, r, g, a⟩ := by
  match cs, hl with
  | [c0, c1, c2, c3, c4], _ =>
  obtain ⟨y0, y1, y2, y3, y4, m, -, h0, h1, h2, h3, h4⟩ := trod_struct5 Try.underlying53 h
  have ci : Try.prog.cellsOf 3 = 1 := by kernel_rfl
  have cu : Try.prog.cellsOf 24 = 1 := by kernel_rfl
  simp only [ci, cu] at h0 h1 h2 h3 h4
  obtain ⟨k, e0, -, w0⟩ := DataW.trod_int Try.underlying3 h0
  obtain ⟨i, e1, -, w1⟩ := DataW.trod_int Try.underlying3 h1
  obtain ⟨r, e2, -, w2⟩ := DataW.trod_int Try.underlying3 h2
  obtain ⟨g, e3, -, w3⟩ := DataW.trod_int Try.underlying3 h3
  obtain ⟨a, e4, -, w4⟩ := DataW.trod_int Try.underlying24 h4
  simp at e0 e1 e2 e3 e4
  subst e0 e1 e2 e3 e4
  exact ⟨k, i, r, g, a, rfl, i64_bd w0, i64_bd w1, i64_bd w2, i64_bd w3, Wl.bd w4⟩
instance : Inhabited Ins := ⟨zin⟩
theorem open_inss {a : Option Addr} {n c : Nat} {d : DataW H} {p : List MemPlace} (h : DataW.Trod enc' Try.prog W 0 (fun _ => true) true 23 (.slice a n c) d p) : ∃ l : List Ins, l.length = n ∧ Inss W a c l := by
  obtain ⟨l, h1, h2, h3⟩ := Lv.of_trod (s := 5) (enc := Ins.enc) (ok := Ins.ok) Try.underlying23 (by kernel_rfl) (by omega) (fun cs fuel x hf hl => by
    obtain ⟨k, i, r, g, a, rfl, hok⟩ := cells_ins hf hl
    refine ⟨⟨k, i, r, g, a⟩, hok, fun t ht => ?_⟩
    match t, ht with
    | 0, _ => rfl
    | 1, _ => rfl
    | 2, _ => rfl
    | 3, _ => rfl
    | 4, _ => rfl) h
  exact ⟨l, h1, h2, h3⟩
theorem one_slice {t e : TypeId} {fuel : Nat} {cs : List Value} {x : DataW H × List MemPlace} (ht : Try.prog.underlying t = some (.slice e)) (h : DataW.trod enc' Try.prog W base sp true fuel t cs = some x) : ∃ a n c, cs = [.slice a n c] := by
  rcases DataW.trod_slice ht h with ⟨rfl, -⟩ | ⟨a, n, c, -, -, -, -, rfl, -⟩
  · exact ⟨none, 0, 0, rfl⟩
  · exact ⟨some a, n, c, rfl⟩
theorem cells_words {n : Nat} {cs : List Value} {xs : List (DataW H × List MemPlace)} {m : Nat} (hn : cs.length = n) (hx : xs.length = n) (h : ∀ i, i < n → DataW.trod enc' Try.prog W base sp true m 24 ((cs.drop (i * 1)).take 1) = xs[i]?) : ∃ R : List Int, R.length = n ∧ Wb R ∧ cs = R.map (Value.int .u64) := by
  obtain ⟨f, hf⟩ := Go.Deep.choose_lt (α := Int) (p := fun i y => cs[i]? = some (.int .u64 y) ∧ (0 ≤ y ∧ y ≤ 18446744073709551615)) (n := n) (fun i hi => by
    have := h i hi
    rw [List.getElem?_eq_getElem (by omega)] at this
    obtain ⟨z, e, -, wz⟩ := DataW.trod_int Try.underlying24 this
    refine ⟨z, ?_, Wl.bd wz⟩
    rw [Nat.mul_one, List.take_one, List.head?_drop, List.getElem?_eq_getElem (by omega)] at e
    simp only [Option.toList_some, List.cons.injEq, and_true] at e
    rw [List.getElem?_eq_getElem (by omega), e])
  refine ⟨(List.range n).map f, by simp, fun j => ?_, ?_⟩
  · unfold gt
    rw [List.getD_eq_getElem?_getD, List.getElem?_map]
    by_cases hj : j < n
    · rw [List.getElem?_range hj]; exact (hf j hj).2
    · rw [List.getElem?_eq_none (by simp; omega)]; simp
  · apply List.ext_getElem?
    intro j
    rw [List.getElem?_map, List.getElem?_map]
    by_cases hj : j < n
    · rw [List.getElem?_range hj, (hf j hj).1]; rfl
    · rw [List.getElem?_eq_none (by omega), List.getElem?_eq_none (by simp; omega)]; rfl
theorem cells_task {cs : List Value} {fuel : Nat} {x : DataW H × List MemPlace} (h : DataW.trod enc' Try.prog W 0 (fun _ => true) true fuel 27 cs = some x) (hl : cs.length = 36) :
    ∃ ca cc t, cs = (TV ca cc t).toList ∧ Tis W ca cc t := by
  obtain ⟨y0, y1, y2, y3, y4, m, -, h0, h1, h2, h3, h4⟩ := trod_struct5 Try.underlying27 h
  have ci : Try.prog.cellsOf 3 = 1 := by kernel_rfl
  have cb : Try.prog.cellsOf 4 = 1 := by kernel_rfl
  have cu : Try.prog.cellsOf 24 = 1 := by kernel_rfl
  have cs1 : Try.prog.cellsOf 23 = 1 := by kernel_rfl
  have ca1 : Try.prog.cellsOf 25 = 32 := by kernel_rfl
  simp only [ci, cb, cs1, ca1] at h0 h1 h2 h3 h4
  obtain ⟨ca, n, cc, e0⟩ := one_slice Try.underlying23 h0
  rw [e0] at h0
  obtain ⟨code, hn, hI⟩ := open_inss (W := W) (enc' := enc') (a := ca) (n := n) (c := cc) (d := y0.1) (p := y0.2) ⟨m, by simpa [Value.cells] using h0⟩
  obtain ⟨pc, e1, -, w1⟩ := DataW.trod_int Try.underlying3 h1
  obtain ⟨dn, e3, -⟩ := DataW.trod_bool Try.underlying4 h3
  obtain ⟨ans, e4, -, w4⟩ := DataW.trod_int Try.underlying3 h4
  obtain ⟨xs, m', -, -, -, hx, hR⟩ := DataW.trod_array Try.underlying25 h2
  rw [cu] at hR
  obtain ⟨R, hRl, hRb, eR⟩ := cells_words (by simp; omega) hx hR
  refine ⟨ca, cc, ⟨code, pc, R, dn, ans⟩, ?_, hI, hRl, hRb, i64_bd w1, i64_bd w4⟩
  have hc : cs = (cs.drop 0).take 1 ++ (cs.drop 1).take 1 ++ (cs.drop 2).take 32 ++ (cs.drop 34).take 1 ++ (cs.drop 35).take 1 := by
    have a1 : ∀ (i k : Nat), (cs.drop i).take k ++ cs.drop (i + k) = cs.drop i := fun i k => by rw [← List.drop_drop, List.take_append_drop]
    have a5 : (cs.drop 35).take 1 = cs.drop 35 := by rw [List.take_of_length_le (by simp; omega)]
    rw [List.append_assoc, List.append_assoc, List.append_assoc, a5, a1 34 1, a1 2 32, a1 1 1, a1 0 1]; rfl
  refine hc.trans ?_
  rw [e0, e1, eR, e3, e4]
  unfold TV
  simp [hn]
theorem open_task {v : Value} {d : DataW H} {p : List MemPlace} {b0 : Nat} (hv : Value.okWide Try.prog W .any b0 27 v) (h : DataW.Trod enc' Try.prog W 0 (fun _ => true) true 27 v d p) :
    ∃ ca cc t, v = .agg (TV ca cc t) ∧ Tis W ca cc t := by
  obtain ⟨cs, rfl, hsz⟩ := okWide_struct Try.underlying27 hv
  have hc : Try.prog.cellsOf 27 = 36 := by kernel_rfl
  rw [hc] at hsz
  obtain ⟨fuel, hf⟩ := h
  obtain ⟨ca, cc, t, e, hT⟩ := cells_task hf (by simpa [Value.cells] using hsz)
  refine ⟨ca, cc, t, ?_, hT⟩
  rw [show cs = TV ca cc t from by rw [← Array.toArray_toList (xs := cs), show cs.toList = (TV ca cc t).toList from e, Array.toArray_toList]]
instance : Inhabited Te := ⟨⟨none, 0, nought⟩⟩
theorem ints_row {w : World} {a : Option Addr} {n c : Nat} {z : List Int} (h : Wl.IsRow .i64 w a n c z) : ∃ l : List Int, l.length = n ∧ Sl.Is w a c l := by
  rcases h with ⟨rfl, rfl, rfl, rfl⟩ | ⟨x, rfl, h1, h2, h3, h4, h5⟩
  · exact ⟨[], rfl, by simp, by simp [maxLen], fun _ => rfl, fun j hj => by simp at hj, fun j => by simp [Sl.gt]⟩
  · have hl : (z.take n).length = n := by rw [List.length_take]; omega
    refine ⟨z.take n, hl, by omega, h2, fun e => (by cases e), fun j hj => ?_, fun j => ?_⟩
    · rw [hl] at hj ⊢
      have h0 := h4 0 (by omega)
      rw [Addr.add, if_pos rfl] at h0
      obtain ⟨s1, s2⟩ := Wl.spot_none h0
      obtain ⟨b, o, s⟩ := x
      simp only at s1 s2
      subst s1
      refine ⟨b, o, rfl, s2, fun i hi => ?_⟩
      have := h4 i (by omega)
      rw [Sl.gt_take, if_pos (by omega)]
      rw [show (⟨b, o + i, none⟩ : Addr) = (⟨b, o, none⟩ : Addr).add i by unfold Addr.add; split <;> simp_all]
      exact this
    · rw [Sl.gt_take]
      split
      · unfold Sl.gt
        by_cases g : j < z.length
        · rw [List.getD_eq_getElem?_getD, List.getElem?_eq_getElem g]
          exact i64_bd (h5 _ (List.getElem_mem g))
        · rw [List.getD_eq_getElem?_getD, List.getElem?_eq_none (by omega)]
          simp
      · omega
/-- A list of words as an element of a list. -/
structure We where
  a : Option Addr
  c : Nat
  l : List Int
def We.enc (x : We) (_ : Nat) : Value := .slice x.a x.l.length x.c
abbrev We.is (w : World) (x : We) : Prop := Wl.Is w x.a x.c x.l
abbrev Wes (w : World) (a : Option Addr) (c : Nat) (L : List We) : Prop := Lv.Is 1 We.enc w a c L ∧ ∀ x ∈ L, We.is w x
theorem Wes.mr {w W : World} {a : Option Addr} {c : Nat} {L : List We} (h : Wes w a c L) (m : Mr w W) : Wes W a c L := ⟨h.1.mr m, fun x hx => Wl.Is.mr (h.2 x hx) m⟩
instance : Inhabited We := ⟨⟨none, 0, []⟩⟩
theorem cells_wl {cs : List Value} {fuel : Nat} {x : DataW H × List MemPlace} (h : DataW.trod enc' Try.prog W 0 (fun _ => true) true fuel 22 cs = some x) : ∃ y : We, We.is W y ∧ cs = [y.enc 0] := by
  rcases open_ints Try.underlying22 Try.underlying24 (by kernel_rfl) h with ⟨hcs, _⟩ | ⟨x, l, c, zs, hcs, _, hl, hm, hz, _, hcell, hwz⟩
  · exact ⟨⟨none, 0, []⟩, Wl.is_nil none (by simp [maxLen]) (fun _ => rfl), hcs⟩
  · obtain ⟨m, hm1, hm2⟩ := Wl.of_row (n := l) (.inr ⟨x, rfl, hl, hm, by simpa using hz, hcell, hwz⟩ : Wl.IsRow .u64 W (some x) l c zs)
    exact ⟨⟨some x, c, m⟩, hm2, by rw [hcs]; unfold We.enc; rw [hm1]⟩
theorem open_wes {a : Option Addr} {n c : Nat} {d : DataW H} {p : List MemPlace} (h : DataW.Trod enc' Try.prog W 0 (fun _ => true) true 40 (.slice a n c) d p) : ∃ L : List We, L.length = n ∧ Wes W a c L := by
  obtain ⟨L, h1, h2, h3⟩ := Lv.of_trod (s := 1) (enc := We.enc) (ok := We.is W) Try.underlying40 (by kernel_rfl) (by omega) (fun cs fuel x hf hl => by
    obtain ⟨y, hy, rfl⟩ := cells_wl hf
    refine ⟨y, hy, fun j hj => ?_⟩
    obtain rfl : j = 0 := by omega
    rfl) h
  exact ⟨L, h1, h2, h3⟩
end Tk
end Go.Proofs.Ytnbejkhcifeeiaa
