/- Sums over words, step by step: layer 13's mathematics. -/
import Derived.Test.YthdjldbieajebaaDoorWlS
namespace Go.Proofs.YthdjldbieajebaaDoor
open Go.ChangeShapes Go.WideShapes Go.ChangeAt Go.RowKit
set_option linter.unusedVariables false
namespace Sp
open Wl
/-- One step of the sum, as the walk tells it. -/
def xr (a b : Int) : Int := bits .xor .u64 a b
def st (h x : Int) : Int := IntKind.u64.wrap (xr h x * 1099511628211)
def sm (l : List Int) : Int := l.foldl st 14695981039346656037
def bv (a : Int) : BitVec 64 := BitVec.ofInt 64 a
theorem bv_nat (x : BitVec 64) : bv ((x.toNat : Nat) : Int) = x := by
  unfold bv
  apply BitVec.eq_of_toNat_eq
  rw [BitVec.toNat_ofInt]
  have := x.isLt
  omega
theorem nat_bv {a : Int} (h : 0 ≤ a ∧ a ≤ 18446744073709551615) : ((bv a).toNat : Int) = a := by
  unfold bv
  rw [BitVec.toNat_ofInt]
  omega
theorem bv_inj {a b : Int} (ha : 0 ≤ a ∧ a ≤ 18446744073709551615) (hb : 0 ≤ b ∧ b ≤ 18446744073709551615) (e : bv a = bv b) : a = b := by
  rw [← nat_bv ha, ← nat_bv hb, e]
theorem xr_bv (a b : Int) : xr a b = ((bv a ^^^ bv b).toNat : Int) := by
  unfold xr
  show IntKind.u64.wrap ((BitVec.ofInt 64 a ^^^ BitVec.ofInt 64 b).toNat : Nat) = _
  have := (BitVec.ofInt 64 a ^^^ BitVec.ofInt 64 b).isLt
  rw [IntKind.wrap_u64]
  unfold bv
  omega
theorem st_bv (h x : Int) : st h x = (((bv h ^^^ bv x) * 1099511628211#64).toNat : Int) := by
  unfold st
  rw [xr_bv, IntKind.wrap_u64, BitVec.toNat_mul]
  have e : (1099511628211#64 : BitVec 64).toNat = 1099511628211 := by decide
  rw [e]
  generalize (bv h ^^^ bv x).toNat = n

  omega
theorem st_bd (h x : Int) : 0 ≤ st h x ∧ st h x ≤ 18446744073709551615 := by
  rw [st_bv]
  have := ((bv h ^^^ bv x) * 1099511628211#64).isLt
  omega
theorem xr_bd (h x : Int) : 0 ≤ xr h x ∧ xr h x ≤ 18446744073709551615 := by
  rw [xr_bv]
  have := (bv h ^^^ bv x).isLt
  omega
theorem mul_inj {a b : BitVec 64} (e : a * 1099511628211#64 = b * 1099511628211#64) : a = b := by
  have h : (1099511628211#64 : BitVec 64) * 14886173955864302971#64 = 1#64 := by decide
  have := congrArg (· * 14886173955864302971#64) e
  simp only [BitVec.mul_assoc, h, BitVec.mul_one] at this
  exact this
theorem xor_inj {a b c : BitVec 64} (e : a ^^^ c = b ^^^ c) : a = b := by
  have := congrArg (· ^^^ c) e
  simpa [BitVec.xor_assoc] using this
theorem st_inj {a b x : Int} (ha : 0 ≤ a ∧ a ≤ 18446744073709551615) (hb : 0 ≤ b ∧ b ≤ 18446744073709551615) (e : st a x = st b x) : a = b := by
  rw [st_bv, st_bv] at e
  exact bv_inj ha hb (xor_inj (mul_inj (BitVec.eq_of_toNat_eq (Int.ofNat_inj.1 e))))
theorem st_inj2 {h a b : Int} (ha : 0 ≤ a ∧ a ≤ 18446744073709551615) (hb : 0 ≤ b ∧ b ≤ 18446744073709551615) (e : st h a = st h b) : a = b := by
  rw [st_bv, st_bv] at e
  have := mul_inj (BitVec.eq_of_toNat_eq (x := (bv h ^^^ bv a) * 1099511628211#64) (y := (bv h ^^^ bv b) * 1099511628211#64) (Int.ofNat_inj.1 e))
  rw [BitVec.xor_comm, BitVec.xor_comm (bv h)] at this
  exact bv_inj ha hb (xor_inj this)
def wd (a : Int) : Prop := 0 ≤ a ∧ a ≤ 18446744073709551615
theorem fold_bd {h : Int} (hh : wd h) (l : List Int) : wd (l.foldl st h) := by
  induction l generalizing h with
  | nil => exact hh
  | cons x l ih => exact ih (st_bd h x)
theorem fold_inj (l : List Int) {a b : Int} (ha : wd a) (hb : wd b) (e : l.foldl st a = l.foldl st b) : a = b := by
  induction l generalizing a b with
  | nil => exact e
  | cons x l ih => exact st_inj ha hb (ih (st_bd a x) (st_bd b x) e)
theorem sm_bd (l : List Int) : wd (sm l) := fold_bd ⟨by decide, by decide⟩ l
theorem sm_snoc (l : List Int) (x : Int) : sm (l ++ [x]) = st (sm l) x := by unfold sm; rw [List.foldl_append]; rfl
/-- No one word that is another goes unseen. -/
theorem sm_mid {p q : List Int} {a b : Int} (ha : wd a) (hb : wd b) (h : a ≠ b) : sm (p ++ a :: q) ≠ sm (p ++ b :: q) := by
  intro e
  apply h
  unfold sm at e
  rw [List.foldl_append, List.foldl_append, List.foldl_cons, List.foldl_cons] at e
  exact st_inj2 ha hb (fold_inj q (st_bd _ a) (st_bd _ b) e)
theorem split_at {l : List Int} {k : Nat} (hk : k < l.length) (b : Int) : l.set k b = l.take k ++ b :: l.drop (k + 1) ∧ l = l.take k ++ gt l k :: l.drop (k + 1) := by
  have e : gt l k = l[k] := by unfold gt; rw [List.getD_eq_getElem?_getD, List.getElem?_eq_getElem hk]; rfl
  refine ⟨List.set_eq_take_append_cons_drop.trans (by rw [if_pos hk]), ?_⟩
  rw [e, List.getElem_cons_drop, List.take_append_drop]
theorem sm_set {l : List Int} {k : Nat} {b : Int} (hl : ∀ j, wd (gt l j)) (hb : wd b) (hk : k < l.length) (hne : b ≠ gt l k) : sm (l.set k b) ≠ sm l := by
  obtain ⟨e1, e2⟩ := split_at hk b
  rw [e1]
  intro e
  exact sm_mid hb (hl k) hne (e.trans (congrArg sm e2))
theorem xr_ne {a b : Int} (ha : wd a) (hb : wd b) (h : b ≠ 0) : xr a b ≠ a := by
  intro e
  apply h
  rw [xr_bv] at e
  have e1 : bv a ^^^ bv b = bv a := by
    apply BitVec.eq_of_toNat_eq
    have := nat_bv ha
    omega
  have e2 : bv b = 0#64 := by
    have := congrArg (bv a ^^^ ·) e1
    simpa [← BitVec.xor_assoc] using this
  have := nat_bv hb
  rw [e2] at this
  exact this.symm
end Sp
end Go.Proofs.YthdjldbieajebaaDoor
