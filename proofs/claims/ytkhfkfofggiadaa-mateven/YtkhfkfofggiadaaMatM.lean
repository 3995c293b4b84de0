/- What the calls of layer 8 come to, as lists; and the document's own answers in these words. -/
import Derived.Test.YtkhfkfofggiadaaRefC21
import Derived.Test.YtkhfkfofggiadaaRefC18
namespace Go.Proofs.Ytkhfkfofggiadaa
open Go.ChangeShapes Go.WideShapes Go.ChangeAt Go.RowKit
open Go.Proofs.Ytkhfkfofggiadaa.Fx Go.Proofs.Ytkhfkfofggiadaa.Sl Go.Proofs.Ytkhfkfofggiadaa.Sm Go.Proofs.Ytkhfkfofggiadaa.Vc
set_option linter.unusedVariables false
namespace Ma
def ok2 (L M : List (List Int)) : Bool := Sl.sq L && Sl.sq M && decide ((L.length : Int) = M.length)
def okv (L : List (List Int)) (v : List Int) : Bool := Sl.sq L && decide ((v.length : Int) = L.length)
def addL (L M : List (List Int)) : List (List Int) := if ok2 L M then mkR (sumR L M) L.length else []
def addB (L M : List (List Int)) : Bool := if ok2 L M then anyB (sumB L M) L.length else true
def mulL (L M : List (List Int)) : List (List Int) := if ok2 L M then mkR (mulR L M) L.length else []
def mulF (L M : List (List Int)) : Bool := if ok2 L M then anyB (mulB L M) L.length else true
def appL (L : List (List Int)) (v : List Int) : List Int := if okv L v then appR L v else []
def appF (L : List (List Int)) (v : List Int) : Bool := if okv L v then anyB (fun i => db (rw' L i) v) L.length else true
def evL (L : List (List Int)) : List (List Int) := if Sl.sq L then mkR (evR L) L.length else []
def tuL (L : List (List Int)) : List (List Int) := if Sl.sq L then mkR (tuR L) L.length else []
def oneL (n : Int) : List (List Int) := if 1 ≤ n ∧ n ≤ 6 then mkR (oneR n.toNat) n.toNat else []
/-- A list of rows that is handed back. -/
def Ret (P : Program) (f : FuncId) (args : Array Value) (w : World) (R : List (List Int)) : Prop := Calls P f args w fun e w' => ∃ a' c', e = .returned (.slice a' R.length c') ∧ ∃ x : Ext w, w' = x.u ∧ Rs x.u a' c' R
def Ret2 (P : Program) (f : FuncId) (args : Array Value) (w : World) (R : List (List Int)) (b : Bool) : Prop := Calls P f args w fun e w' => ∃ a' c', e = .returned (.tuple #[.slice a' R.length c', .bool b]) ∧ ∃ x : Ext w, w' = x.u ∧ Rs x.u a' c' R
def RetV (P : Program) (f : FuncId) (args : Array Value) (w : World) (R : List Int) (b : Bool) : Prop := Calls P f args w fun e w' => ∃ a' c', e = .returned (.tuple #[.slice a' R.length c', .bool b]) ∧ ∃ x : Ext w, w' = x.u ∧ Is x.u a' c' R
theorem rs_nil (w : World) : Rs w none 0 [] := ⟨by simp, by simp [maxLen], fun _ => rfl, fun j hj => by simp at hj⟩
theorem is_nil0 (w : World) : Is w none 0 [] := ⟨by simp, by simp [maxLen], fun _ => rfl, fun j hj => by simp at hj, fun j => by simp [gt]⟩
theorem radd8_u {a b : Option Addr} {c d : Nat} {L M : List (List Int)} (w : World) (h : Rs w a c L) (g : Rs w b d M) : Ret2 Try.prog 11 #[.slice a L.length c, .slice b M.length d] w (addL L M) (addB L M) := by
  unfold Ret2 addL addB
  cases hs : ok2 L M
  · refine (radd8_no w h rfl g rfl hs).mono ?_
    rintro e w' ⟨rfl, x, rfl⟩
    exact ⟨none, 0, rfl, x, rfl, rs_nil _⟩
  · refine (radd8_c w h rfl g rfl hs).mono ?_
    rintro e w' ⟨a', c', rfl, x, rfl, hR⟩
    exact ⟨a', c', by simp only [if_true, mkR_length], x, rfl, hR⟩
theorem rmul8_u {a b : Option Addr} {c d : Nat} {L M : List (List Int)} (w : World) (h : Rs w a c L) (g : Rs w b d M) : Ret2 Try.prog 13 #[.slice a L.length c, .slice b M.length d] w (mulL L M) (mulF L M) := by
  unfold Ret2 mulL mulF
  cases hs : ok2 L M
  · refine (rmul8_no w h rfl g rfl hs).mono ?_
    rintro e w' ⟨rfl, x, rfl⟩
    exact ⟨none, 0, rfl, x, rfl, rs_nil _⟩
  · refine (rmul8_c w h rfl g rfl hs).mono ?_
    rintro e w' ⟨a', c', rfl, x, rfl, hR⟩
    exact ⟨a', c', by simp only [if_true, mkR_length], x, rfl, hR⟩
theorem rapply8_u {a b : Option Addr} {c d : Nat} {L : List (List Int)} {v : List Int} (w : World) (h : Rs w a c L) (g : Is w b d v) : RetV Try.prog 15 #[.slice a L.length c, .slice b v.length d] w (appL L v) (appF L v) := by
  unfold RetV appL appF
  cases hs : okv L v
  · refine (rapply8_no w h rfl g rfl hs).mono ?_
    rintro e w' ⟨rfl, x, rfl⟩
    exact ⟨none, 0, rfl, x, rfl, is_nil0 _⟩
  · have hs' := hs
    unfold okv at hs'
    rw [Bool.and_eq_true, decide_eq_true_eq] at hs'
    have em : v.length = L.length := by omega
    rw [em]
    refine (rapply8_c w h rfl g em hs'.1).mono ?_
    rintro e w' ⟨a', c', rfl, x, rfl, hR⟩
    exact ⟨a', c', by simp only [if_true]; unfold appR; rw [mk_length], x, rfl, hR⟩
theorem reven8_u {a : Option Addr} {c : Nat} {L : List (List Int)} (w : World) (h : Rs w a c L) : Ret Try.prog 25 #[.slice a L.length c] w (evL L) := by
  unfold Ret evL
  cases hs : Sl.sq L
  · refine (reven8_no w h rfl hs).mono ?_
    rintro e w' ⟨rfl, x, rfl⟩
    exact ⟨none, 0, rfl, x, rfl, rs_nil _⟩
  · refine (reven8_c w h rfl hs).mono ?_
    rintro e w' ⟨a', c', rfl, x, rfl, hR⟩
    exact ⟨a', c', by simp only [if_true, mkR_length], x, rfl, hR⟩
theorem rturned8_u {a : Option Addr} {c : Nat} {L : List (List Int)} (w : World) (h : Rs w a c L) : Ret Try.prog 23 #[.slice a L.length c] w (tuL L) := by
  unfold Ret tuL
  cases hs : Sl.sq L
  · refine (rturned8_no w h rfl hs).mono ?_
    rintro e w' ⟨rfl, x, rfl⟩
    exact ⟨none, 0, rfl, x, rfl, rs_nil _⟩
  · refine (rturned8_c w h rfl hs).mono ?_
    rintro e w' ⟨a', c', rfl, x, rfl, hR⟩
    exact ⟨a', c', by simp only [if_true, mkR_length], x, rfl, hR⟩
theorem rone8_u (n : Int) (w : World) : Ret Try.prog 21 #[.int .i64 n] w (oneL n) := by
  unfold Ret oneL
  by_cases h : 1 ≤ n ∧ n ≤ 6
  · rw [if_pos h]
    have hn : n = (n.toNat : Int) := by omega
    have := rone8_c n.toNat w (by omega) (by omega)
    rw [← hn] at this
    refine this.mono ?_
    rintro e w' ⟨a', c', rfl, x, rfl, hR⟩
    exact ⟨a', c', by rw [mkR_length], x, rfl, hR⟩
  · rw [if_neg h]
    refine (rone8_no n w (by omega)).mono ?_
    rintro e w' ⟨rfl, x, rfl⟩
    exact ⟨none, 0, rfl, x, rfl, rs_nil _⟩
end Ma
end Go.Proofs.Ytkhfkfofggiadaa
