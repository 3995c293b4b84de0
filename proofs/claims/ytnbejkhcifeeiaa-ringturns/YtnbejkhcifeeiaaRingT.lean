/- However both take turns: a play's state, and what each step makes of it (layer 14's law RingTurns). -/
import Derived.Test.YtnbejkhcifeeiaaRingL
import Derived.Test.YtnbejkhcifeeiaaRingK
namespace Go.Proofs.Ytnbejkhcifeeiaa
open Go.ChangeShapes Go.WideShapes Go.ChangeAt Go.RowKit
set_option linter.unusedVariables false
namespace Rg
open Wl Ce Tk Rw
/-- Where a play stands. -/
structure At (B C : Nat) (s : Pl) (d h nn k1 k2 : Nat) : Prop where
  b : s.b = B
  c : s.c = C
  ok : s.ok = true
  eh : s.h = h
  ed : s.d = d
  en : s.nx = nn
  ely : s.ly = k1
  epp : s.pp = k2
  ring : Ring B C s.M (s.L.map We.l) d h
  lay : LayAt B C s.M (s.L.map We.l) h (wn nn) s.y.t k1
  take : TakeAt B C (s.L.map We.l) h s.z.t k2
  sum : nn = s.L.length + d
theorem At.start {B C : Nat} (hC : 1 ≤ C ∧ C ≤ 8) (am : Option Addr) (km : Nat) (ca1 : Option Addr) (cc1 : Nat) (ca2 : Option Addr) (cc2 : Nat) : At B C (first am km (List.replicate (B + 3 + 6 * C) 0) B C ca1 cc1 ca2 cc2) 0 0 0 0 0 where
  b := rfl
  c := rfl
  ok := rfl
  eh := rfl
  ed := rfl
  en := rfl
  ely := rfl
  epp := rfl
  ring := new_ring hC
  lay := .inl ⟨rfl, rfl⟩
  take := .inl ⟨rfl, rfl⟩
  sum := rfl
/-- A step of who lays. -/
theorem At.layed {B C : Nat} {s s' : Pl} {d h nn k1 k2 : Nat} (hC : 1 ≤ C ∧ C ≤ 8) (hB : B ≤ 100) (hN : s.L.length + d ≤ 1000) (a : At B C s d h nn k1 k2) (g : Lay s s' B C nn) :
    ∃ d' nn' k', At B C s' d' h nn' k' k2 ∧ nn' ≤ nn + 1 := by
  have q := lay_step hC hB (by rw [List.length_map]; omega) (wn_len nn) a.ring a.lay
  obtain ⟨g1, g2, g3, g4, g5, g6, g7, g8⟩ := g
  obtain ⟨q1, q⟩ := q
  have hl := a.sum
  rcases g8 with ⟨e1, e2, e3, e4, e5, e6⟩ | ⟨e1, e2, ⟨x, hx, e3⟩, e4, e5, e6, e7⟩ | ⟨e1, e2, e3, e4, e5, e6, e7⟩
  · rcases q with ⟨f1, f2, f3⟩ | ⟨f1, _⟩ | ⟨f1, _⟩
    · refine ⟨d, nn, k1 + 1, { b := by rw [g1, a.b], c := by rw [g2, a.c], ok := g3, eh := by rw [g4, a.eh], ed := by rw [e5, a.ed], en := by rw [e6, a.en], ely := by rw [e3, a.ely]; rfl, epp := by rw [g6, a.epp], ring := by rw [g7, e4]; exact f2, lay := by rw [g7, e4, e2]; exact f3, take := by rw [e4, g5]; exact a.take, sum := by rw [e4]; exact hl }, by omega⟩
    · rw [e1] at f1; cases f1
    · rw [e1] at f1; cases f1
  · rcases q with ⟨f1, _⟩ | ⟨f1, f2, f3⟩ | ⟨f1, f2, f3⟩
    · rw [e1] at f1; cases f1
    · have hm : s'.L.map We.l = s.L.map We.l ++ [wn nn] := by rw [e3, List.map_append, ← hx]; rfl
      have hlen : s'.L.length = s.L.length + 1 := by rw [e3, List.length_append]; rfl
      refine ⟨d, nn + 1, 0, { b := by rw [g1, a.b], c := by rw [g2, a.c], ok := g3, eh := by rw [g4, a.eh], ed := by rw [e4, a.ed], en := by rw [e5]; rfl, ely := by rw [e6]; rfl, epp := by rw [g6, a.epp], ring := by rw [g7, hm]; exact f3, lay := ?_, take := by rw [hm, g5]; exact a.take.more _, sum := by rw [hlen]; omega }, by omega⟩
      have := LayAt.begin B C s'.M (s'.L.map We.l) h (wn ((nn + 1 : Nat) : Int))
      rw [List.length_map, hlen] at this
      rw [e7]; exact this
    · rw [e2] at f2; cases f2
  · rcases q with ⟨f1, _⟩ | ⟨f1, f2, f3⟩ | ⟨f1, f2, f3⟩
    · rw [e1] at f1; cases f1
    · exact absurd f2 e2
    · refine ⟨d + 1, nn + 1, 0, { b := by rw [g1, a.b], c := by rw [g2, a.c], ok := g3, eh := by rw [g4, a.eh], ed := by rw [e4, a.ed]; rfl, en := by rw [e5]; rfl, ely := by rw [e6]; rfl, epp := by rw [g6, a.epp], ring := by rw [g7, e3]; exact f3, lay := ?_, take := by rw [e3, g5]; exact a.take, sum := by rw [e3]; omega }, by omega⟩
      have := LayAt.begin B C s'.M (s'.L.map We.l) h (wn ((nn + 1 : Nat) : Int))
      rw [List.length_map, e3] at this
      rw [e3, e7]; exact this
/-- What who takes is told before. -/
theorem At.tells {B C : Nat} {s : Pl} {d h nn k1 k2 : Nat} (hC : 1 ≤ C ∧ C ≤ 8) (hB : B ≤ 100) (hN : s.L.length + d ≤ 1000) (a : At B C s d h nn k1 k2) :
    (Tk.stepT s.z.t s.M).done = true → (Tk.stepT s.z.t s.M).ans = 1 → ∃ x : We, s.L[h]? = some x ∧ taken (Tk.stepT s.z.t s.M) = x.l := by
  intro h1 h2
  obtain ⟨q1, _, q⟩ := take_step hC hB (by rw [List.length_map]; omega) a.ring a.take
  rcases q with ⟨f1, _⟩ | ⟨f1, f2, f3, f4, _⟩ | ⟨f1, f2, _⟩
  · rw [h1] at f1; cases f1
  · rw [List.length_map] at f3
    refine ⟨s.L[h], List.getElem?_eq_getElem f3, ?_⟩
    rw [f4]
    unfold li
    rw [List.getD_eq_getElem?_getD, List.getElem?_map, List.getElem?_eq_getElem f3]; rfl
  · rw [h2] at f2; cases f2
/-- A step of who takes. -/
theorem At.took {B C : Nat} {s s' : Pl} {d h nn k1 k2 : Nat} (hC : 1 ≤ C ∧ C ≤ 8) (hB : B ≤ 100) (hN : s.L.length + d ≤ 1000) (a : At B C s d h nn k1 k2) (g : Tak s s' B C h) :
    ∃ h' k', At B C s' d h' nn k1 k' := by
  obtain ⟨q1, q2, q⟩ := take_step hC hB (by rw [List.length_map]; omega) a.ring a.take
  obtain ⟨g1, g2, g3, g4, g5, g6, g7, g8, g9, g0⟩ := g
  have hl := a.sum
  rcases g0 with ⟨e1, e2, e3, e4⟩ | ⟨e1, e2, e3, e4, e5⟩ | ⟨e1, e2, e3, e4, e5⟩
  · rcases q with ⟨f1, f2, f3⟩ | ⟨f1, _⟩ | ⟨f1, _⟩
    · exact ⟨h, k2 + 1, { b := by rw [g1, a.b], c := by rw [g2, a.c], ok := g3, eh := e4, ed := by rw [g8, a.ed], en := by rw [g4, a.en], ely := by rw [g6, a.ely], epp := by rw [e3, a.epp]; rfl, ring := by rw [g9, g7]; exact f2, lay := by rw [g9, g7, g5]; exact a.lay.taken q2 (Nat.le_refl _) hC.1, take := by rw [g7, e2]; exact f3, sum := by rw [g7]; exact hl }⟩
    · rw [e1] at f1; cases f1
    · rw [e1] at f1; cases f1
  · rcases q with ⟨f1, _⟩ | ⟨f1, f2, f3, f4, f5⟩ | ⟨f1, f2, f3⟩
    · rw [e1] at f1; cases f1
    · exact ⟨h + 1, 0, { b := by rw [g1, a.b], c := by rw [g2, a.c], ok := g3, eh := e3, ed := by rw [g8, a.ed], en := by rw [g4, a.en], ely := by rw [g6, a.ely], epp := by rw [e4]; rfl, ring := by rw [g9, g7]; exact f5, lay := by rw [g9, g7, g5]; exact a.lay.taken q2 (Nat.le_succ _) hC.1, take := by rw [g7, e5]; exact TakeAt.begin B C _ _, sum := by rw [g7]; exact hl }⟩
    · rw [e2] at f2; cases f2
  · rcases q with ⟨f1, _⟩ | ⟨f1, f2, _⟩ | ⟨f1, f2, f3⟩
    · rw [e1] at f1; cases f1
    · exact absurd f2 e2
    · exact ⟨h, 0, { b := by rw [g1, a.b], c := by rw [g2, a.c], ok := g3, eh := e3, ed := by rw [g8, a.ed], en := by rw [g4, a.en], ely := by rw [g6, a.ely], epp := by rw [e4]; rfl, ring := by rw [g9, g7]; exact f3, lay := by rw [g9, g7, g5]; exact a.lay.taken q2 (Nat.le_refl _) hC.1, take := by rw [g7, e5]; exact TakeAt.begin B C _ _, sum := by rw [g7]; exact hl }⟩
end Rg
end Go.Proofs.Ytnbejkhcifeeiaa
