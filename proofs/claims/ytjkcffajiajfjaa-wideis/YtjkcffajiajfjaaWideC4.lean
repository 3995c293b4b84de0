/- The contracts of package wide, fourth part: the laws' own example. -/
import Derived.Test.YtjkcffajiajfjaaWideC3
namespace Go.Proofs.Ytjkcffajiajfjaa
open Go.ChangeShapes Go.WideShapes Go.ChangeAt Go.RowKit
open Go.Proofs.Ytjkcffajiajfjaa.Fx
set_option linter.unusedVariables false
attribute [local go_sem] Ext.cell Ext.froz Ext.lt Ext.lt1 Ext.lt2 Ext.lt3 Ext.all Ext.set_u drew_heap setCell_size Ext.set_size
namespace Wd
attribute [local go_sem ↓] eq_wide eqw_self
attribute [local go_sem] and62 and1 sgn64 not64 wrap_and
set_option maxHeartbeats 2000000 in
theorem awake2_c (w : World) :
    Calls Try.prog 9 #[] w fun e w' => e = .returned (.bool true) ∧ ∃ x : Ext w, w' = x.u := by
  have f1 : ml 1099511627776 1099511627776 = 1208925819614629174706176 := by decide
  have f2 : hi 1208925819614629174706176 = 262144 := by decide
  have f3 : lo 1208925819614629174706176 = 0 := by decide
  have f4 : vw 262144 0 = 1208925819614629174706176 := by decide
  have f5 : dn 1208925819614629174706176 80 = 1 := by decide
  have f6 : vw (hi 1) (lo 1) = 1 := by decide
  have f7 : cl 1 = 1 := by decide
  have f8 : co 1 = false := by decide
  have f9 : vw (hi (-1)) (lo (-1)) = -1 := by decide
  have f10 : cut 0 = 0 := by decide
  have f11 : hi 0 = 0 := by decide
  have f12 : lo 0 = 0 := by decide
  have f13 : inr 0 = true := by decide
  have f14 : sn 262144 0 = true := by decide
  have f15 : cut (-1208925819614629174706176) = -1208925819614629174706176 := by decide
  have f16 : vw (hi (-1208925819614629174706176)) (lo (-1208925819614629174706176)) = -1208925819614629174706176 := by decide
  have f17 : cm (-1208925819614629174706176) 1208925819614629174706176 = -1 := by decide
  go_enter Try.func9, Try.ntmps9
  go_wp2_with (first | (go_at_call 14; refine (wmul_c _ _ _).mono ?_; rintro e w' ⟨rfl, x, rfl⟩) | (go_at_call 24; refine (wdown_c _ _ _ _).mono ?_; rintro e w' ⟨rfl, x, rfl⟩) | (go_at_call 12; refine (wint_c _ _ _).mono ?_; rintro e w' ⟨rfl, x, rfl⟩) | (go_at_call 16; refine (wof_c _ _ ?_).mono ?_; (first | omega | exact ⟨by omega, by omega⟩); rintro e w' ⟨rfl, x, rfl⟩) | (go_at_call 10; refine (wadd_c _ _ _ _ _).mono ?_; rintro e w' ⟨rfl, x, rfl⟩))
  refine wp_region_ext (by kernel_rfl) (by kernel_rfl) ?_
  repeat (go_big_quiet_step ((first | (go_at_call 18; exact extCall (sane_c _ _ _)) | (go_at_call 20; exact extCall (wneg_c _ _ _)) | (go_at_call 22; exact extCall (wcmp_c _ _ _ _ _)))))
  refine wpQuiet_nil ?_
  rintro w1 ⟨x1, rfl⟩
  go_wp2
  go_ret
  exact ⟨rfl, Mr.mk' (by repeat (first | (with_reducible exact Mr.refl _) | (with_reducible apply Mr.drew) | (with_reducible apply Mr.alloc) | (with_reducible apply Mr.ext) | (with_reducible refine Mr.setCell ?_ (by first | (simp; done) | (simp; omega) | omega | (refine leOf0 ?_; (repeat (first | (with_reducible exact Mr.refl _) | (with_reducible apply Mr.drew) | (with_reducible apply Mr.alloc) | (with_reducible apply Mr.ext) | (with_reducible refine Mr.setCell ?_ (by first | (simp; done) | (simp; omega) | omega) _))); done) | (refine leOf ?_; (repeat (first | (with_reducible exact Mr.refl _) | (with_reducible apply Mr.drew) | (with_reducible apply Mr.alloc) | (with_reducible apply Mr.ext) | (with_reducible refine Mr.setCell ?_ (by first | (simp; done) | (simp; omega) | omega) _))); done)) _)))⟩
end Wd
end Go.Proofs.Ytjkcffajiajfjaa
