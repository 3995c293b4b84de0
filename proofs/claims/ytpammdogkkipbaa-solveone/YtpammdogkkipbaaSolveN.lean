/- What the calls of layer 10 come to, as lists; and the document's own answers in these words. -/
import Derived.Test.YtpammdogkkipbaaRefC28
import Derived.Test.YtpammdogkkipbaaSolveM3
namespace Go.Proofs.Ytpammdogkkipbaa
open Go.ChangeShapes Go.WideShapes Go.ChangeAt Go.RowKit
open Go.Proofs.Ytpammdogkkipbaa.Fx Go.Proofs.Ytpammdogkkipbaa.Sl Go.Proofs.Ytpammdogkkipbaa.Sm Go.Proofs.Ytpammdogkkipbaa.Vc
set_option linter.unusedVariables false
namespace Sv
open Ma
/-- A matrix and a list that are handed back, and whether they are there. -/
def Ret3 (P : Program) (f : FuncId) (args : Array Value) (w : World) (R : List (List Int)) (D : List Int) (b : Bool) : Prop := Calls P f args w fun e w' => ∃ a1 c1 a2 c2, e = .returned (.tuple #[.slice a1 R.length c1, .slice a2 D.length c2, .bool b]) ∧ ∃ x : Ext w, w' = x.u ∧ Rs x.u a1 c1 R ∧ Is x.u a2 c2 D
theorem rfactor_u {a : Option Addr} {c n : Nat} {L : List (List Int)} {w : World} (h : Rs w a c L) (en : L.length = n) : Ret3 Try.prog 11 #[.slice a n c] w (facL L) (facD L) (facO L) := by
  unfold Ret3
  refine (rfactor_c w h en).mono ?_
  rintro e w' ⟨hm, ⟨hO, g, cc, R, D, rfl, hC, hwD, hd, hRD⟩ | ⟨hO, rfl⟩⟩
  · have h6 := (sq_n (facO_sq hO).1).2
    unfold facL facD
    rw [hO, if_pos rfl, if_pos rfl, en, mkR_length, mk_length]
    exact ⟨_, _, _, _, rfl, ⟨_, hm⟩, rfl, hC.done (by unfold maxLen; omega) (fun i j _ _ => by have := Lf_bd (nm L) i j; omega), is_rowIs hd (by unfold maxLen; omega) (fun j _ => by have := Df_bd (nm L) j; omega)⟩
  · unfold facL facD
    rw [hO]
    exact ⟨none, 0, none, 0, rfl, ⟨_, hm⟩, rfl, rs_nil _, is_nil0 _⟩
theorem solO_len {A : List (List Int)} {v : List Int} (h : solO A v = true) : v.length = A.length ∧ Sl.sq A = true := by
  unfold solO at h
  rw [Bool.and_eq_true, Bool.and_eq_true, decide_eq_true_eq] at h
  exact ⟨h.1.2, (facO_sq h.1.1).1⟩
theorem rsolve_u {a b : Option Addr} {c d n m : Nat} {A : List (List Int)} {v : List Int} {w : World} (h : Rs w a c A) (en : A.length = n) (g : Is w b d v) (em : v.length = m) : RetV Try.prog 13 #[.slice a n c, .slice b m d] w (solX A v) (solO A v) := by
  unfold RetV
  refine (rsolve_c w h en g em).mono ?_
  rintro e w' ⟨hm, ⟨hO, X, rfl, hx⟩ | ⟨hO, rfl⟩⟩
  · obtain ⟨hl, hs⟩ := solO_len hO
    have h6 := (sq_n hs).2
    unfold solX
    rw [hO, if_pos rfl, mk_length, ← hl, em]
    exact ⟨_, _, rfl, ⟨_, hm⟩, rfl, is_rowIs hx (by unfold maxLen; omega) (fun j hj => by have := Xf_bd (z := Zf (gt v) (Lf (nm A)) (Df (nm A))) (Lf (nm A)) m j hj (fun k => Sc.qv_bd _ _); omega)⟩
  · unfold solX
    rw [hO]
    exact ⟨none, 0, rfl, ⟨_, hm⟩, rfl, is_nil0 _⟩
end Sv
end Go.Proofs.Ytpammdogkkipbaa
