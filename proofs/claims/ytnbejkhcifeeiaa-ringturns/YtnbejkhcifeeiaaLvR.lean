/- Lists whose elements are some cells each, as arguments. -/
import Derived.Test.YtnbejkhcifeeiaaLvS
import Derived.Test.YtnbejkhcifeeiaaWlS
import Derived.Deep.Slices
import Derived.ChangeOld
import Derived.Below
namespace Go.Proofs.Ytnbejkhcifeeiaa
open Go.ChangeShapes Go.WideShapes Go.ChangeAt Go.RowKit
set_option linter.unusedVariables false
namespace Lv
variable {H : Type} {enc' : TypeId × Value → H} {W : World}
/-- A slice that came in, of elements each of which tells what it is. -/
theorem of_trod {α : Type} [Inhabited α] {s : Nat} {enc : α → Nat → Value} {ok : α → Prop} {t e : TypeId} {a : Option Addr} {n c : Nat} {d : DataW H} {p : List MemPlace} (ht : Try.prog.underlying t = some (.slice e)) (hs : Try.prog.cellsOf e = s) (h0 : 0 < s)
    (each : ∀ (cs : List Value) (fuel : Nat) (x : DataW H × List MemPlace), DataW.trod enc' Try.prog W 0 (fun _ => true) true fuel e cs = some x → cs.length = s → ∃ y : α, ok y ∧ ∀ t, t < s → cs[t]? = some (enc y t))
    (h : DataW.Trod enc' Try.prog W 0 (fun _ => true) true t (.slice a n c) d p) : ∃ l : List α, l.length = n ∧ Is s enc W a c l ∧ ∀ x ∈ l, ok x := by
  obtain ⟨fuel, hf⟩ := h
  rcases Go.Deep.open_slice ht hf with ⟨hcs, -⟩ | ⟨a', len, cap, m, n', D, Pl, hcs, -, hl, hm, hmm, -, hx⟩
  · simp [Value.cells] at hcs
    obtain ⟨rfl, rfl, rfl⟩ := hcs
    exact ⟨[], rfl, is_nil _ (by simp [maxLen]) (fun _ => rfl), fun x hx => by simp at hx⟩
  · simp [Value.cells] at hcs
    obtain ⟨rfl, rfl, rfl⟩ := hcs
    simp only [if_true] at hmm
    subst hmm
    obtain ⟨f, hfx⟩ := Go.Deep.choose_lt (α := α) (p := fun i y => ok y ∧ ∀ t, t < s → W.cell? ((a'.add (i * s)).add t) = some (enc y t)) (fun i hi => by
      obtain ⟨cs', h1, h2⟩ := hx i hi
      rw [hs] at h1
      obtain ⟨-, hlen, hcell⟩ := World.cells?_some h1
      obtain ⟨y, hy, hyt⟩ := each cs' n' _ h2 hlen
      exact ⟨y, hy, fun t htt => by rw [hcell t htt, hyt t htt]⟩)
    refine ⟨(List.range n).map f, by simp, ⟨by simpa using hl, hm, fun e => (by cases e), fun hj => ?_⟩, fun x hx' => ?_⟩
    · rw [List.length_map, List.length_range] at hj
      have h00 := (hfx 0 (by omega)).2 0 h0
      have e00 : (a'.add (0 * s)).add 0 = a' := by simp [Addr.add]
      rw [e00] at h00
      obtain ⟨s1, s2⟩ := Wl.spot_none h00
      obtain ⟨b, o, sp⟩ := a'
      simp only at s1 s2
      subst s1
      refine ⟨b, o, rfl, s2, fun i x hi t htt => ?_⟩
      rw [List.getElem?_map] at hi
      by_cases g : i < n
      · rw [List.getElem?_range g] at hi
        simp only [Option.map_some, Option.some.injEq] at hi
        subst hi
        have := (hfx i (by omega)).2 t htt
        rw [Go.Deep.add_add] at this
        rw [show (⟨b, o + (i * s + t), none⟩ : Addr) = (⟨b, o, none⟩ : Addr).add (i * s + t) by unfold Addr.add; split <;> simp_all]
        exact this
      · rw [List.getElem?_eq_none (by simp; omega)] at hi
        cases hi
    · rw [List.mem_map] at hx'
      obtain ⟨i, hi, rfl⟩ := hx'
      exact (hfx i (by have := List.mem_range.1 hi; omega)).1
end Lv
end Go.Proofs.Ytnbejkhcifeeiaa
