/- The document's own answers of layer 8, fifth part: lists that are moved, what is even, turned ones, and the one. -/
import Derived.Test.YtpammdogkkipbaaRefC17
namespace Go.Proofs.Ytpammdogkkipbaa
open Go.ChangeShapes Go.WideShapes Go.ChangeAt Go.RowKit
open Go.Proofs.Ytpammdogkkipbaa.Fx Go.Proofs.Ytpammdogkkipbaa.Sl Go.Proofs.Ytpammdogkkipbaa.Sm Go.Proofs.Ytpammdogkkipbaa.Vc
set_option linter.unusedVariables false
attribute [local go_sem] Ext.cell Ext.froz Ext.lt Ext.lt1 Ext.lt2 Ext.lt3 Ext.all Ext.set_u drew_heap setCell_size Ext.set_size
namespace Ma
def appR (L : List (List Int)) (v : List Int) : List Int := mk (fun i => dv (rw' L i) v) L.length
def evR (L : List (List Int)) (i : Nat) : List Int := mk (fun j => mn [gt (rw' L i) j, gt (rw' L j) i]) L.length
theorem mn_in (X : List Int) : -288230376151711744 ≤ mn X ∧ mn X ≤ 288230376151711744 := by
  unfold mn
  split
  · omega
  · rename_i h
    have b := tot_bd X
    have := mean_in (z := tot X) (L := (vk X 64).length) (by omega) rfl rfl b.1 b.2
    rw [show tot X + tot X = 2 * tot X by omega] at this
    omega
end Ma
end Go.Proofs.Ytpammdogkkipbaa
