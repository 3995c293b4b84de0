/- The document's own answers of layer 8, with lengths by name. -/
import Derived.Test.YtkhfkfofggiadaaMatM3
namespace Go.Proofs.Ytkhfkfofggiadaa
open Go.ChangeShapes Go.WideShapes Go.ChangeAt Go.RowKit
open Go.Proofs.Ytkhfkfofggiadaa.Fx Go.Proofs.Ytkhfkfofggiadaa.Sl Go.Proofs.Ytkhfkfofggiadaa.Sm Go.Proofs.Ytkhfkfofggiadaa.Vc
namespace Ma
theorem radd8_n {a b : Option Addr} {c d n m : Nat} {L M : List (List Int)} {w : World} (h : Rs w a c L) (en : L.length = n) (g : Rs w b d M) (em : M.length = m) : Ret2 Try.prog 11 #[.slice a n c, .slice b m d] w (addL L M) (addB L M) := by subst en; subst em; exact radd8_u w h g
theorem rmul8_n {a b : Option Addr} {c d n m : Nat} {L M : List (List Int)} {w : World} (h : Rs w a c L) (en : L.length = n) (g : Rs w b d M) (em : M.length = m) : Ret2 Try.prog 13 #[.slice a n c, .slice b m d] w (mulL L M) (mulF L M) := by subst en; subst em; exact rmul8_u w h g
theorem rapply8_n {a b : Option Addr} {c d n m : Nat} {L : List (List Int)} {v : List Int} {w : World} (h : Rs w a c L) (en : L.length = n) (g : Is w b d v) (em : v.length = m) : RetV Try.prog 15 #[.slice a n c, .slice b m d] w (appL L v) (appF L v) := by subst en; subst em; exact rapply8_u w h g
theorem reven8_n {a : Option Addr} {c n : Nat} {L : List (List Int)} {w : World} (h : Rs w a c L) (en : L.length = n) : Ret Try.prog 25 #[.slice a n c] w (evL L) := by subst en; exact reven8_u w h
theorem rturned8_n {a : Option Addr} {c n : Nat} {L : List (List Int)} {w : World} (h : Rs w a c L) (en : L.length = n) : Ret Try.prog 23 #[.slice a n c] w (tuL L) := by subst en; exact rturned8_u w h
end Ma
end Go.Proofs.Ytkhfkfofggiadaa
