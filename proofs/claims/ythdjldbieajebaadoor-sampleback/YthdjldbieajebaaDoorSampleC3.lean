/- What the laws of layer 13 need besides. -/
import Derived.Test.YthdjldbieajebaaDoorSampleM2
namespace Go.Proofs.YthdjldbieajebaaDoor
open Go.ChangeShapes Go.WideShapes Go.ChangeAt Go.RowKit
set_option linter.unusedVariables false
namespace Sp
open Wl
theorem and16 (n : Int) : bits .and .i64 n 65535 = n % 65536 := by
  have h : (BitVec.ofInt 64 65535).toNat = 2 ^ 16 - 1 := by decide
  have key : (BitVec.ofInt 64 n &&& BitVec.ofInt 64 65535).toNat = (n % ((2 ^ 64 : Nat) : Int)).toNat % 2 ^ 16 := by
    rw [BitVec.toNat_and, BitVec.toNat_ofInt, h, Nat.and_two_pow_sub_one_eq_mod]
  show IntKind.i64.wrap ((BitVec.ofInt 64 n &&& BitVec.ofInt 64 65535).toNat : Nat) = _
  rw [key, IntKind.wrap_i64]
  omega
theorem and2 (n : Int) : bits .and .i64 n 3 = n % 4 := by
  have h : (BitVec.ofInt 64 3).toNat = 2 ^ 2 - 1 := by decide
  have key : (BitVec.ofInt 64 n &&& BitVec.ofInt 64 3).toNat = (n % ((2 ^ 64 : Nat) : Int)).toNat % 2 ^ 2 := by
    rw [BitVec.toNat_and, BitVec.toNat_ofInt, h, Nat.and_two_pow_sub_one_eq_mod]
  show IntKind.i64.wrap ((BitVec.ofInt 64 n &&& BitVec.ofInt 64 3).toNat : Nat) = _
  rw [key, IntKind.wrap_i64]
  omega
theorem place {n : Nat} (hn : 0 < n) (p : Int) : ∃ I : Nat, p % 65536 % (n : Int) = I ∧ (p % 65536).tmod n = I ∧ I < n := by
  have h0 := Int.emod_nonneg p (b := 65536) (by omega)
  have h1 := Int.emod_nonneg (p % 65536) (b := (n : Int)) (by omega)
  have h2 := Int.emod_lt_of_pos (p % 65536) (b := (n : Int)) (by omega)
  refine ⟨(p % 65536 % n).toNat, by omega, ?_, by omega⟩
  rw [Int.tmod_eq_emod_of_nonneg h0]
  omega
/-- A sum, one step ahead of its end. -/
theorem sum_last {l : List Int} {n m : Nat} (h : l.length = m) (e : m = n + 1) : sm l = IntKind.u64.wrap (bits .xor .u64 (sm (l.take n)) (gt l n) * 1099511628211) := by
  subst e
  have e : l = l.take n ++ [gt l n] := by
    rw [← take_more l n (by omega), List.take_of_length_le (by omega)]
  conv => lhs; rw [e, sm_snoc]
  rfl
theorem map_at {l : List Int} {k : Nat} (h : k < l.length) : (l.map (Value.int .u64))[k]? = some (.int .u64 (gt l k)) := by
  rw [List.getElem?_map, List.getElem?_eq_getElem h]
  unfold gt
  rw [List.getD_eq_getElem?_getD, List.getElem?_eq_getElem h]
  rfl
theorem set_bd {l : List Int} {k : Nat} {x : Int} (h : ∀ j, wd (gt l j)) (hx : wd x) : ∀ j, wd (gt (l.set k x) j) := by
  intro j
  unfold gt
  rw [List.getD_eq_getElem?_getD, List.getElem?_set]
  split
  · split
    · exact hx
    · exact ⟨by simp, by simp⟩
  · have := h j
    unfold gt at this
    rwa [List.getD_eq_getElem?_getD] at this
/-- A word of a block of one's own is made another. -/
theorem own_set {W : World} {B n : Nat} {v : Value} {l : List Int} (h : W.ownsRow B 30 1 v n (l.map (Value.int .u64))) (hl : l.length = n) (hb : ∀ j, wd (gt l j)) {k : Nat} (hk : k < n) :
    ∃ g cap, v = .slice (some ⟨g, 0, none⟩) n cap ∧ B ≤ g ∧ g < W.heap.size ∧ W.frozen? ⟨g, k, none⟩ = false ∧ W.cell? ⟨g, k, none⟩ = some (.int .u64 (gt l k)) ∧ ∀ x, wd x → Wl.Is (W.setCell ⟨g, k, none⟩ (.int .u64 x)) (some ⟨g, 0, none⟩) cap (l.set k x) := by
  obtain ⟨g, cap, rfl, hg, hlt, hf, hc, hset⟩ := owns_set h hk
  refine ⟨g, cap, rfl, hg, hlt, hf, hc.trans (map_at (by omega)), fun x hx => ?_⟩
  have h2 := hset (.int .u64 x)
  rw [← List.map_set] at h2
  obtain ⟨a, c, e, -, hI⟩ := of_owns h2 (set_bd hb hx)
  simp only [Value.slice.injEq] at e
  obtain ⟨rfl, -, rfl⟩ := e
  exact hI
theorem own_none {W : World} {B : Nat} {e : TypeId} {v : Value} {xs : List Value} (h : W.ownsRow B e 1 v 0 xs) : ∃ a c, v = .slice a 0 c := by
  obtain ⟨-, ⟨rfl, -⟩ | ⟨g, cap, cur, rfl, -⟩⟩ := h
  · exact ⟨_, _, rfl⟩
  · exact ⟨_, _, rfl⟩
end Sp
end Go.Proofs.YthdjldbieajebaaDoor
