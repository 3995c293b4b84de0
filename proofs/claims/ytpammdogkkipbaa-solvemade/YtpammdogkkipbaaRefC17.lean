/- The document's own answers of layer 8, third part: what makes matrices. -/
import Derived.Test.YtpammdogkkipbaaRefC16
import Derived.Test.YtpammdogkkipbaaRefC11
import Derived.Test.YtpammdogkkipbaaVecM
namespace Go.Proofs.Ytpammdogkkipbaa
open Go.ChangeShapes Go.WideShapes Go.ChangeAt Go.RowKit
open Go.Proofs.Ytpammdogkkipbaa.Fx Go.Proofs.Ytpammdogkkipbaa.Sl Go.Proofs.Ytpammdogkkipbaa.Sm Go.Proofs.Ytpammdogkkipbaa.Vc
set_option linter.unusedVariables false
attribute [local go_sem] Ext.cell Ext.froz Ext.lt Ext.lt1 Ext.lt2 Ext.lt3 Ext.all Ext.set_u drew_heap setCell_size Ext.set_size
namespace Ma
/-- Whether something is so at one of the places. -/
def anyB (p : Nat → Bool) (n : Nat) : Bool := (List.range n).any p
theorem anyB_succ (p : Nat → Bool) (n : Nat) : anyB p (n + 1) = (anyB p n || p n) := by simp [anyB, List.range_succ]
theorem sq_ok {L : List (List Int)} {n : Nat} (h : sq L = true) (en : L.length = n) : (1 ≤ n ∧ n ≤ 6) ∧ ∀ k, k < n → (rw' L k).length = n := by
  unfold Sl.sq at h
  rw [Bool.and_eq_true, Bool.and_eq_true, decide_eq_true_eq, decide_eq_true_eq, all_rw, en] at h
  exact ⟨⟨h.1.2, h.2⟩, fun k hk => by simpa using h.1.1 k hk⟩
theorem both_ok {L M : List (List Int)} {n m : Nat} (hs : (sq L && sq M && decide ((n : Int) = m)) = true) (en : L.length = n) (em : M.length = m) : (1 ≤ n ∧ n ≤ 6) ∧ n = m ∧ (∀ k, k < n → (rw' L k).length = n) ∧ (∀ k, k < n → (rw' M k).length = n) := by
  rw [Bool.and_eq_true, Bool.and_eq_true, decide_eq_true_eq] at hs
  have h1 := sq_ok hs.1.1 en
  have h2 := sq_ok hs.1.2 em
  obtain rfl : n = m := by omega
  exact ⟨h1.1, rfl, h1.2, h2.2⟩
/-- The sum's numbers. -/
def sumR (L M : List (List Int)) (i : Nat) : List Int := mk (fun j => av (gt (rw' L i) j) (gt (rw' M i) j)) L.length
def sumB (L M : List (List Int)) (i : Nat) : Bool := anyB (fun j => ao (gt (rw' L i) j) (gt (rw' M i) j)) L.length
end Ma
end Go.Proofs.Ytpammdogkkipbaa
