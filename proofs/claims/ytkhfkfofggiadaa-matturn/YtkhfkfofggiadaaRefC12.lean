/- The contracts of the document's own answers of layer 6, second part. -/
import Derived.Test.YtkhfkfofggiadaaRefC11
namespace Go.Proofs.Ytkhfkfofggiadaa
open Go.ChangeShapes Go.WideShapes Go.ChangeAt Go.RowKit
open Go.Proofs.Ytkhfkfofggiadaa.Fx Go.Proofs.Ytkhfkfofggiadaa.Wd Go.Proofs.Ytkhfkfofggiadaa.Sc Go.Proofs.Ytkhfkfofggiadaa.Rt
set_option linter.unusedVariables false
attribute [local go_sem] Ext.cell Ext.froz Ext.lt Ext.lt1 Ext.lt2 Ext.lt3 Ext.all Ext.set_u drew_heap setCell_size Ext.set_size
namespace Sm
open Sl
theorem rcut_n {a : Option Addr} {c : Nat} {l : List Int} {w : World} (n : Nat) (h : Sl.Is w a c l) (hn : l.length = n) :
    Calls Try.prog 51 #[.slice a n c] w fun e w' => ∃ a' c', e = .returned (.tuple #[.slice a' (vk l 64).length c', .bool (ck l 64)]) ∧ ∃ x : Ext w, w' = x.u ∧ Sl.Is x.u a' c' (vk l 64) := by
  subst hn; exact rcut_c a c l w h
theorem rws_n {a b : Option Addr} {c d : Nat} {l m : List Int} {w : World} (n k : Nat) (h : Sl.Is w a c l) (g : Sl.Is w b d m) (hl : l.length ≤ 64) (hn : l.length = n) (hk : m.length = k) :
    Calls Try.prog 53 #[.slice a n c, .slice b k d] w fun e w' => e = .returned (.agg #[.int .i64 (hi (dp l m)), .int .i64 (lo (dp l m))]) ∧ ∃ x : Ext w, w' = x.u := by
  subst hn hk; exact rws_c a b c d l m w h g hl
theorem dp_inr (l m : List Int) (h : l.length ≤ 64) : inr (dp l m) = true := ws_inr l m (by omega)
/-- As many of both as the shorter one has. -/
def kk (l m : List Int) : Nat := min l.length m.length
def dz (l m : List Int) : Int := dp (vk (l.take (kk l m)) 64) (vk (m.take (kk l m)) 64)
set_option maxRecDepth 100000 in
set_option maxHeartbeats 2000000 in
theorem rdot_c (a b : Option Addr) (c d : Nat) (l m : List Int) (w : World) (h : Sl.Is w a c l) (g : Sl.Is w b d m) :
    Calls Try.prog 35 #[.slice a l.length c, .slice b m.length d] w fun e w' => e = .returned (.tuple #[.int .i64 (cl (rn (dz l m))), .bool (ck (l.take (kk l m)) 64 || ck (m.take (kk l m)) 64 || co (rn (dz l m)))]) ∧ ∃ x : Ext w, w' = x.u := by
  have e1 := dp_inr (vk (l.take (kk l m)) 64) (vk (m.take (kk l m)) 64) (vk_64 _)
  have e2 := vw_hl e1
  have e3 := sn_hl e1
  have h1 : (l.take (kk l m)).length = kk l m := by rw [List.length_take]; unfold kk; omega
  have g1 : (m.take (kk l m)).length = kk l m := by rw [List.length_take]; unfold kk; omega
  have hle := h.le
  have gle := g.le
  have hmx := h.max
  have gmx := g.max
  have hnil := h.nil
  have gnil := g.nil
  have hA := h.take (kk l m)
  have gB := g.take (kk l m)
  clear h g
  have hk : (m.length < l.length ∧ kk l m = m.length) ∨ (¬ m.length < l.length ∧ kk l m = l.length) := by unfold kk; omega
  have EZ : Hid (dz l m = dp (vk (l.take (kk l m)) 64) (vk (m.take (kk l m)) 64)) := rfl
  generalize hK : kk l m = K at *
  clear hK
  rcases hk with ⟨o, rfl⟩ | ⟨o, rfl⟩
  · have o' : (m.length : Int) < l.length := by omega
    simp only [List.take_length] at *
    (generalize hz : dp (vk (l.take _) 64) (vk m 64) = z at *; have RV : Hid (rv (hi z) (lo z) = cl (rn z)) := (by unfold rv; rw [e2]; trivial); have RB : Hid (rb (hi z) (lo z) = co (rn z)) := (by unfold rb; rw [e2, e3]; simp [Hid]); generalize hF : ck (l.take _) 64 = F at *; generalize hG : ck m 64 = G at *)
    cases F <;> cases G
    all_goals
      go_enter Try.func35, Try.ntmps35
      go_wp2_with (first | (go_at_call 51; refine (rcut_n _ hA (by first | exact h1 | rfl)).mono ?_; clear hA; rintro e w1 ⟨a1, c1, rfl, x, rfl, hI1⟩; have hm1 := x.h; have g' := gB.mr x.h; clear gB; generalize x.u = W1 at *; clear x) | (go_at_call 51; refine (rcut_n _ g' (by first | exact g1 | rfl)).mono ?_; rintro e w2 ⟨a2, c2, rfl, x, rfl, hI2⟩; have hm2 := hm1.trans x.h; have hI3 := hI1.mr x.h; clear g' hI1; generalize x.u = W2 at *; clear x) | (go_at_call 53; refine (rws_n _ _ hI3 hI2 (vk_64 _) rfl rfl).mono ?_; rintro e w' ⟨rfl, x, rfl⟩) | (go_at_call 52; refine (rround_c _ _ _).mono ?_; rintro e w' ⟨rfl, x, rfl⟩))
      go_ret2
      exact ⟨ret_ib (by rw [EZ.out]; exact RV.out) (by rw [EZ.out]; simp [RB.out]), Mr.mk' (hm2.trans (by repeat (first | (with_reducible exact Mr.refl _) | (with_reducible apply Mr.drew) | (with_reducible apply Mr.alloc) | (with_reducible apply Mr.ext) | (with_reducible refine Mr.setCell ?_ (by first | (simp; done) | (simp; omega) | omega | (refine leOf0 ?_; (repeat (first | (with_reducible exact Mr.refl _) | (with_reducible apply Mr.drew) | (with_reducible apply Mr.alloc) | (with_reducible apply Mr.ext) | (with_reducible refine Mr.setCell ?_ (by first | (simp; done) | (simp; omega) | omega) _))); done) | (refine leOf ?_; (repeat (first | (with_reducible exact Mr.refl _) | (with_reducible apply Mr.drew) | (with_reducible apply Mr.alloc) | (with_reducible apply Mr.ext) | (with_reducible refine Mr.setCell ?_ (by first | (simp; done) | (simp; omega) | omega) _))); done)) _))))⟩
  · have o' : ¬ (m.length : Int) < l.length := by omega
    simp only [List.take_length] at *
    (generalize hz : dp (vk l 64) (vk (m.take _) 64) = z at *; have RV : Hid (rv (hi z) (lo z) = cl (rn z)) := (by unfold rv; rw [e2]; trivial); have RB : Hid (rb (hi z) (lo z) = co (rn z)) := (by unfold rb; rw [e2, e3]; simp [Hid]); generalize hF : ck l 64 = F at *; generalize hG : ck (m.take _) 64 = G at *)
    cases F <;> cases G
    all_goals
      go_enter Try.func35, Try.ntmps35
      go_wp2_with (first | (go_at_call 51; refine (rcut_n _ hA (by first | exact h1 | rfl)).mono ?_; clear hA; rintro e w1 ⟨a1, c1, rfl, x, rfl, hI1⟩; have hm1 := x.h; have g' := gB.mr x.h; clear gB; generalize x.u = W1 at *; clear x) | (go_at_call 51; refine (rcut_n _ g' (by first | exact g1 | rfl)).mono ?_; rintro e w2 ⟨a2, c2, rfl, x, rfl, hI2⟩; have hm2 := hm1.trans x.h; have hI3 := hI1.mr x.h; clear g' hI1; generalize x.u = W2 at *; clear x) | (go_at_call 53; refine (rws_n _ _ hI3 hI2 (vk_64 _) rfl rfl).mono ?_; rintro e w' ⟨rfl, x, rfl⟩) | (go_at_call 52; refine (rround_c _ _ _).mono ?_; rintro e w' ⟨rfl, x, rfl⟩))
      go_ret2
      exact ⟨ret_ib (by rw [EZ.out]; exact RV.out) (by rw [EZ.out]; simp [RB.out]), Mr.mk' (hm2.trans (by repeat (first | (with_reducible exact Mr.refl _) | (with_reducible apply Mr.drew) | (with_reducible apply Mr.alloc) | (with_reducible apply Mr.ext) | (with_reducible refine Mr.setCell ?_ (by first | (simp; done) | (simp; omega) | omega | (refine leOf0 ?_; (repeat (first | (with_reducible exact Mr.refl _) | (with_reducible apply Mr.drew) | (with_reducible apply Mr.alloc) | (with_reducible apply Mr.ext) | (with_reducible refine Mr.setCell ?_ (by first | (simp; done) | (simp; omega) | omega) _))); done) | (refine leOf ?_; (repeat (first | (with_reducible exact Mr.refl _) | (with_reducible apply Mr.drew) | (with_reducible apply Mr.alloc) | (with_reducible apply Mr.ext) | (with_reducible refine Mr.setCell ?_ (by first | (simp; done) | (simp; omega) | omega) _))); done)) _))))⟩
end Sm
end Go.Proofs.Ytkhfkfofggiadaa
