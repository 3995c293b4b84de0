/- Instructions that are written, and instructions that a call gathers. -/
import Derived.Test.YtnbejkhcifeeiaaTaskS2
import Derived.Test.YtnbejkhcifeeiaaRowW
import Derived.Maps.AppendAt
namespace Go.Proofs.Ytnbejkhcifeeiaa
open Go.ChangeShapes Go.WideShapes Go.ChangeAt Go.RowKit
set_option linter.unusedVariables false
namespace Tk
open Wl Ce Rw
def Ins.okB (x : Ins) : Bool := decide (-9223372036854775808 ≤ x.k) && decide (x.k ≤ 9223372036854775807) && decide (-9223372036854775808 ≤ x.i) && decide (x.i ≤ 9223372036854775807) && decide (-9223372036854775808 ≤ x.r) && decide (x.r ≤ 9223372036854775807) && decide (-9223372036854775808 ≤ x.go) && decide (x.go ≤ 9223372036854775807) && decide (0 ≤ x.a) && decide (x.a ≤ 18446744073709551615)
theorem Ins.ok_of {x : Ins} (h : x.okB = true) : x.ok := by
  unfold Ins.okB at h
  simp only [Bool.and_eq_true, decide_eq_true_eq] at h
  unfold Ins.ok
  omega
theorem lit_inss {w : World} (B : Nat) (hB : w.heap.size = B) (xs : List Ins) (n : Nat) (hn : xs.length = n) (h : xs.all Ins.okB = true) (hm : decide (xs.length ≤ 1000) = true) (vs : Array Value) (hv : vs.toList = Lv.flat 5 Ins.enc xs) : Inss (w.alloc (.cells vs 53)) (some ⟨B, 0, none⟩) n xs := by
  subst hB hn
  exact ⟨Lv.of_cells xs (by unfold maxLen; have := of_decide_eq_true hm; omega) vs hv, fun x hx => Ins.ok_of (List.all_eq_true.1 h x hx)⟩
theorem infoIns : (Try.prog.info? 53).map (fun i => (i.zero, i.size, i.bytes)) = some (some (.agg #[.int .i64 0, .int .i64 0, .int .i64 0, .int .i64 0, .int .u64 0]), 5, 40) := by kernel_rfl
theorem flat_one5 {L : List Ins} : ∀ u ∈ Lv.flat 5 Ins.enc L, u.oneCell' = true := by
  intro u hu
  unfold Lv.flat at hu
  rw [List.mem_flatMap] at hu
  obtain ⟨x, hx, hu⟩ := hu
  rw [List.mem_map] at hu
  obtain ⟨j, hj, rfl⟩ := hu
  have : j < 5 := List.mem_range.1 hj
  match j, this with
  | 0, _ => rfl
  | 1, _ => rfl
  | 2, _ => rfl
  | 3, _ => rfl
  | 4, _ => rfl
theorem flat_cells5 {w : World} {ad : Addr} {c : Nat} {L : List Ins} (h : Lv.Is 5 Ins.enc w (some ad) c L) : ∀ j u, (Lv.flat 5 Ins.enc L)[j]? = some u → w.cell? (ad.add j) = some u := by
  intro j u hu
  have hj : j < L.length * 5 := by
    have := (List.getElem?_eq_some_iff.1 hu).1
    rwa [Lv.flat_length] at this
  obtain ⟨b, o, e, hb, hc⟩ := h.at' (by omega)
  simp only [Option.some.injEq] at e
  subst e
  have hi : j / 5 < L.length := by omega
  have e1 := Lv.flat_get (s := 5) (enc := Ins.enc) L (j / 5) L[j / 5] (List.getElem?_eq_getElem hi) (j % 5) (by omega)
  rw [show j / 5 * 5 + j % 5 = j by omega, hu] at e1
  have e2 := hc (j / 5) L[j / 5] (List.getElem?_eq_getElem hi) (j % 5) (by omega)
  rw [show j / 5 * 5 + j % 5 = j by omega, ← e1] at e2
  rw [show (⟨b, o, none⟩ : Addr).add j = ⟨b, o + j, none⟩ by unfold Addr.add; split <;> simp_all]
  exact e2
/-- One instruction appended to what a call gathers. -/
theorem append_ins {w : World} {ops : Array Oper} {rest : List Oper} {o : Oper} {a : Act} {Q : Exit → Act → World → Prop} (hgd : o.guard = none) (s x : Operand)
    (ho : o.op = .call { callee := .builtin .append, args := #[s, x], argTypes := #[23, 23] }) (base : Nat) (v : Value) (n : Nat) (X : List Ins) (hs : a.eval s = v) (hown : w.ownsRow base 53 5 v n (Lv.flat 5 Ins.enc X))
    {ad : Addr} {c : Nat} {y : Ins} (hx : a.eval x = .slice (some ad) 1 c) (hI : Inss w (some ad) c [y]) (hbytes : n ≤ 1000000) (hbase : base ≤ w.heap.size)
    (h : ∀ v' w', w'.ownsRow base 53 5 v' (n + 1) (Lv.flat 5 Ins.enc (X ++ [y])) → w.grownBy w' v.ownBlock → wpList Try.prog ops Q rest (a.put o.dst v') w') : wpList Try.prog ops Q (o :: rest) a w := by
  obtain ⟨i0, hi, hz0, hz1, hz2⟩ := info_parts3 infoIns
  refine wpList_append_own w hgd s x 23 ho base 53 i0 (.agg #[.int .i64 0, .int .i64 0, .int .i64 0, .int .i64 0, .int .u64 0]) 5 40 Try.underlying23 hi hz0 hz1 hz2 rfl (by decide) v n _ hs hown ad 1 c (Lv.flat 5 Ins.enc [y]) hx (by rw [Lv.flat_length]; rfl) (flat_cells5 hI.1) flat_one5 (by unfold maxLen; omega) (by omega) hbase (fun v' w' h1 h2 h3 => h v' w' ?_ h2)
  rw [Lv.flat_append]; exact h1
theorem ins_new {w : World} (B : Nat) (hB : w.heap.size = B) (x : Ins) (hx : x.ok) (vs : Array Value) (hv : vs.toList = Lv.flat 5 Ins.enc [x]) : Inss (w.alloc (.cells vs 53)) (some ⟨B, 0, none⟩) 1 [x] := by
  subst hB
  exact ⟨Lv.of_cells [x] (by simp [maxLen]) vs hv, fun y hy => by simp at hy; subst hy; exact hx⟩
/-- Some instructions appended to what a call gathers. -/
theorem append_inss {w : World} {ops : Array Oper} {rest : List Oper} {o : Oper} {a : Act} {Q : Exit → Act → World → Prop} (hgd : o.guard = none) (s x : Operand)
    (ho : o.op = .call { callee := .builtin .append, args := #[s, x], argTypes := #[23, 23] }) (base : Nat) (v : Value) (n k : Nat) (X Y : List Ins) (hs : a.eval s = v) (hown : w.ownsRow base 53 5 v n (Lv.flat 5 Ins.enc X))
    {ad : Addr} {c : Nat} (hx : a.eval x = .slice (some ad) k c) (hk : Y.length = k) (hk0 : k ≤ 1000) (hI : Inss w (some ad) c Y) (hbytes : n ≤ 1000000) (hbase : base ≤ w.heap.size)
    (h : ∀ v' w', w'.ownsRow base 53 5 v' (n + k) (Lv.flat 5 Ins.enc (X ++ Y)) → w.grownBy w' v.ownBlock → wpList Try.prog ops Q rest (a.put o.dst v') w') : wpList Try.prog ops Q (o :: rest) a w := by
  obtain ⟨i0, hi, hz0, hz1, hz2⟩ := info_parts3 infoIns
  refine wpList_append_own w hgd s x 23 ho base 53 i0 (.agg #[.int .i64 0, .int .i64 0, .int .i64 0, .int .i64 0, .int .u64 0]) 5 40 Try.underlying23 hi hz0 hz1 hz2 rfl (by decide) v n _ hs hown ad k c (Lv.flat 5 Ins.enc Y) hx (by rw [Lv.flat_length, hk]) (flat_cells5 hI.1) flat_one5 (by unfold maxLen; omega) (by omega) hbase (fun v' w' h1 h2 h3 => h v' w' ?_ h2)
  rw [Lv.flat_append]; exact h1
/-- Instructions written at once are one's own. -/
theorem lit_owns {w : World} (B : Nat) (hB : w.heap.size = B) (X : List Ins) (n : Nat) (hn : X.length = n) (hm : n ≤ 1000) (vs : Array Value) (hv : vs.toList = Lv.flat 5 Ins.enc X) : (w.alloc (.cells vs 53)).ownsRow B 53 5 (.slice (some ⟨B, 0, none⟩) n n) n (Lv.flat 5 Ins.enc X) := by
  subst hB
  refine ⟨by rw [Lv.flat_length, hn], .inr ⟨w.heap.size, n, vs, rfl, Nat.le_refl _, by show (w.heap.push _)[w.heap.size]? = _; simp, Nat.le_refl _, by unfold maxLen; omega, ?_, ?_⟩⟩
  · rw [← Array.length_toList, hv, Lv.flat_length, hn]
  · rw [hv]
    exact List.take_of_length_le (by rw [Lv.flat_length, hn]; exact Nat.le_refl _)
theorem inss_lit {w : World} (B : Nat) (hB : w.heap.size = B) (X : List Ins) (hX : ∀ x ∈ X, x.ok) (hm : X.length ≤ 1000) (n : Nat) (hn : X.length = n) (vs : Array Value) (hv : vs.toList = Lv.flat 5 Ins.enc X) : Inss (w.alloc (.cells vs 53)) (some ⟨B, 0, none⟩) n X := by
  subst hB hn
  exact ⟨Lv.of_cells X (by unfold maxLen; omega) vs hv, hX⟩
end Tk
end Go.Proofs.Ytnbejkhcifeeiaa
