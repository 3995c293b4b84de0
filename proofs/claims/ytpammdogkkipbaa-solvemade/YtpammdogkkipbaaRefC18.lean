/- The document's own answers of layer 8, fourth part: products. -/
import Derived.Test.YtpammdogkkipbaaRefC17
namespace Go.Proofs.Ytpammdogkkipbaa
open Go.ChangeShapes Go.WideShapes Go.ChangeAt Go.RowKit
open Go.Proofs.Ytpammdogkkipbaa.Fx Go.Proofs.Ytpammdogkkipbaa.Sl Go.Proofs.Ytpammdogkkipbaa.Sm Go.Proofs.Ytpammdogkkipbaa.Vc
set_option linter.unusedVariables false
attribute [local go_sem] Ext.cell Ext.froz Ext.lt Ext.lt1 Ext.lt2 Ext.lt3 Ext.all Ext.set_u drew_heap setCell_size Ext.set_size
namespace Ma
def mulR (L M : List (List Int)) (i : Nat) : List Int := mk (fun j => dv (rw' L i) (col M j)) L.length
def mulB (L M : List (List Int)) (i : Nat) : Bool := anyB (fun j => db (rw' L i) (col M j)) L.length
end Ma
end Go.Proofs.Ytpammdogkkipbaa
