/- The contracts of package sum. -/
import Derived.Test.YtkhfkfofggiadaaSumR
import Derived.Test.YtkhfkfofggiadaaSumI
import Derived.Test.YtkhfkfofggiadaaWideC2
namespace Go.Proofs.Ytkhfkfofggiadaa
open Go.ChangeShapes Go.WideShapes Go.ChangeAt Go.RowKit Go.Shelf
open Go.Proofs.Ytkhfkfofggiadaa.Fx Go.Proofs.Ytkhfkfofggiadaa.Wd Go.Proofs.Ytkhfkfofggiadaa.Sc Go.Proofs.Ytkhfkfofggiadaa.Rt
set_option linter.unusedVariables false
attribute [local go_sem] Ext.cell Ext.froz Ext.lt Ext.lt1 Ext.lt2 Ext.lt3 Ext.all Ext.set_u drew_heap setCell_size Ext.set_size
attribute [-go_sem] run_min_int2
namespace Sm
open Sl
/-- What makes a range of terms. -/
theorem termsW_c (m : Int) (g : Nat) (lbg : Array Value) (w : World) :
    Calls Try.prog 64 #[.int .i64 m, .func (.func g) #[] lbg] w fun e w' => e = .returned (.func (.func 85) #[] #[.pointer (some ⟨w.heap.size, 0, none⟩), .pointer (some ⟨w.heap.size + 1, 0, none⟩)]) ∧ w' = (w.alloc (.cells #[.int .i64 m] 3)).alloc (.cells #[.func (.func g) #[] lbg] 71) := by
  go_enter Try.func64, Try.ntmps64
  go_wp2
  go_ret
  exact ⟨rfl, rfl⟩
theorem termsI_c (m : Int) (g : Nat) (lbg : Array Value) (w : World) :
    Calls Try.prog 74 #[.int .i64 m, .func (.func g) #[] lbg] w fun e w' => e = .returned (.func (.func 89) #[] #[.pointer (some ⟨w.heap.size, 0, none⟩), .pointer (some ⟨w.heap.size + 1, 0, none⟩)]) ∧ w' = (w.alloc (.cells #[.int .i64 m] 3)).alloc (.cells #[.func (.func g) #[] lbg] 50) := by
  go_enter Try.func74, Try.ntmps74
  go_wp2
  go_ret
  exact ⟨rfl, rfl⟩
theorem wideValues_c {a : Option Addr} {n c : Nat} (w : World) (hn : n ≤ 9223372036854775807) :
    Calls Try.prog 46 #[.slice a n c] w fun e w' => e = .returned (.func (.func 85) #[] #[.pointer (some ⟨w.heap.size + 1, 0, none⟩), .pointer (some ⟨w.heap.size + 1 + 1, 0, none⟩)]) ∧ w' = ((w.alloc (.cells #[.slice a n c] 23)).alloc (.cells #[.int .i64 n] 3)).alloc (.cells #[.func (.func 65) #[] #[.pointer (some ⟨w.heap.size, 0, none⟩)]] 71) := by
  go_enter Try.func46, Try.ntmps46
  go_wp2_with (go_at_call 64; refine (termsW_c _ _ _ _).mono ?_; rintro e w' ⟨rfl, rfl⟩)
  go_ret
  exact ⟨rfl, rfl⟩
theorem values_c {a : Option Addr} {n c : Nat} (w : World) (hn : n ≤ 9223372036854775807) :
    Calls Try.prog 56 #[.slice a n c] w fun e w' => e = .returned (.func (.func 89) #[] #[.pointer (some ⟨w.heap.size + 1, 0, none⟩), .pointer (some ⟨w.heap.size + 1 + 1, 0, none⟩)]) ∧ w' = ((w.alloc (.cells #[.slice a n c] 23)).alloc (.cells #[.int .i64 n] 3)).alloc (.cells #[.func (.func 75) #[] #[.pointer (some ⟨w.heap.size, 0, none⟩)]] 50) := by
  go_enter Try.func56, Try.ntmps56
  go_wp2_with (go_at_call 74; refine (termsI_c _ _ _ _).mono ?_; rintro e w' ⟨rfl, rfl⟩)
  go_ret
  exact ⟨rfl, rfl⟩
theorem products_c {a b : Option Addr} {n m c d : Nat} (K : Nat) (hK : K = min n m) (w : World) (hn : n ≤ 9223372036854775807) (hm : m ≤ 9223372036854775807) :
    Calls Try.prog 69 #[.slice a n c, .slice b m d] w fun e w' => e = .returned (.func (.func 85) #[] #[.pointer (some ⟨w.heap.size + 1 + 1, 0, none⟩), .pointer (some ⟨w.heap.size + 1 + 1 + 1, 0, none⟩)]) ∧ w' = (((w.alloc (.cells #[.slice a n c] 23)).alloc (.cells #[.slice b m d] 23)).alloc (.cells #[.int .i64 K] 3)).alloc (.cells #[.func (.func 86) #[] #[.pointer (some ⟨w.heap.size, 0, none⟩), .pointer (some ⟨w.heap.size + 1, 0, none⟩)]] 71) := by
  have hmin : ∀ (ts : Array TypeId) (t : TypeId) (W : World), (Builtin.min_ ts t #[.int .i64 (n : Int), .int .i64 (m : Int)]).run Try.prog W = .ok (.int .i64 (K : Int)) W := fun ts t W => by
    simp [Builtin.min_, Builtin.min2]
    omega
  clear hK
  go_enter Try.func69, Try.ntmps69
  go_wp2_with (go_at_call 64; refine (termsW_c _ _ _ _).mono ?_; rintro e w' ⟨rfl, rfl⟩)
  go_ret
  exact ⟨rfl, rfl⟩
set_option maxHeartbeats 1000000 in
theorem wv1_c {a : Option Addr} {c : Nat} {X : List Int} (B i n : Nat) (w : World) (hB : B < w.heap.size) (hc : w.cell? ⟨B, 0, none⟩ = some (.slice a n c)) (h : Is w a c X) (e : X.length = n) (hin : i < n) :
    Calls Try.prog 65 #[.int .i64 i, .pointer (some ⟨B, 0, none⟩)] w fun e w' => e = .returned (.tuple #[.agg #[.int .i64 (hi (cl (gt X i))), .int .i64 (lo (cl (gt X i)))], .bool (co (gt X i))]) ∧ ∃ x : Ext w, w' = x.u := by
  obtain ⟨b, o, rfl, hb, hcs⟩ := h.at' i (by omega)
  have hci := hcs i (by omega)
  have hbd := cl_bd (gt X i)
  have hi' : (i : Int) < n := by omega
  have hB1 : B < w.heap.size + 1 := by omega
  have hb1 : b < w.heap.size + 1 := by omega
  generalize hx : gt X i = q at *
  clear h hcs
  go_enter Try.func65, Try.ntmps65
  go_wp2_with (first | (go_at_call 39; refine (clamp_c _ _).mono ?_; rintro e w' ⟨rfl, rfl⟩) | (go_at_call 66; refine (wof_c _ _ ?_).mono ?_; (exact ⟨by omega, by omega⟩); rintro e w' ⟨rfl, x, rfl⟩))
  exact bodyPost_ret (v := .tuple #[.agg #[.int .i64 (hi (cl q)), .int .i64 (lo (cl q))], .bool (co q)]) (by simp [results, Try.results65, go_sem]) rfl ⟨rfl, Mr.mk' (by repeat (first | (with_reducible exact Mr.refl _) | (with_reducible apply Mr.drew) | (with_reducible apply Mr.alloc) | (with_reducible apply Mr.ext) | (with_reducible refine Mr.setCell ?_ (by first | (simp; done) | (simp; omega) | omega | (refine leOf0 ?_; (repeat (first | (with_reducible exact Mr.refl _) | (with_reducible apply Mr.drew) | (with_reducible apply Mr.alloc) | (with_reducible apply Mr.ext) | (with_reducible refine Mr.setCell ?_ (by first | (simp; done) | (simp; omega) | omega) _))); done) | (refine leOf ?_; (repeat (first | (with_reducible exact Mr.refl _) | (with_reducible apply Mr.drew) | (with_reducible apply Mr.alloc) | (with_reducible apply Mr.ext) | (with_reducible refine Mr.setCell ?_ (by first | (simp; done) | (simp; omega) | omega) _))); done)) _)))⟩
theorem v1_c {a : Option Addr} {c : Nat} {X : List Int} (B i n : Nat) (w : World) (hB : B < w.heap.size) (hc : w.cell? ⟨B, 0, none⟩ = some (.slice a n c)) (h : Is w a c X) (e : X.length = n) (hin : i < n) :
    Calls Try.prog 75 #[.int .i64 i, .pointer (some ⟨B, 0, none⟩)] w fun e w' => e = .returned (.tuple #[.int .i64 (cl (gt X i)), .bool (co (gt X i))]) ∧ ∃ x : Ext w, w' = x.u := by
  obtain ⟨b, o, rfl, hb, hcs⟩ := h.at' i (by omega)
  have hci := hcs i (by omega)
  have hi' : (i : Int) < n := by omega
  generalize hx : gt X i = q at *
  clear h hcs
  go_enter Try.func75, Try.ntmps75
  go_wp2_with (first | (go_at_call 39; refine (clamp_c _ _).mono ?_; rintro e w' ⟨rfl, rfl⟩))
  go_ret2
  exact ⟨rfl, Mr.mk' (by repeat (first | (with_reducible exact Mr.refl _) | (with_reducible apply Mr.drew) | (with_reducible apply Mr.alloc) | (with_reducible apply Mr.ext) | (with_reducible refine Mr.setCell ?_ (by first | (simp; done) | (simp; omega) | omega | (refine leOf0 ?_; (repeat (first | (with_reducible exact Mr.refl _) | (with_reducible apply Mr.drew) | (with_reducible apply Mr.alloc) | (with_reducible apply Mr.ext) | (with_reducible refine Mr.setCell ?_ (by first | (simp; done) | (simp; omega) | omega) _))); done) | (refine leOf ?_; (repeat (first | (with_reducible exact Mr.refl _) | (with_reducible apply Mr.drew) | (with_reducible apply Mr.alloc) | (with_reducible apply Mr.ext) | (with_reducible refine Mr.setCell ?_ (by first | (simp; done) | (simp; omega) | omega) _))); done)) _)))⟩
set_option maxHeartbeats 1000000 in
theorem pr1_c {a a' : Option Addr} {c c' : Nat} {X Y : List Int} (B B' i n n' : Nat) (w : World) (hB : B < w.heap.size) (hc : w.cell? ⟨B, 0, none⟩ = some (.slice a n c)) (hB' : B' < w.heap.size) (hc' : w.cell? ⟨B', 0, none⟩ = some (.slice a' n' c')) (h : Is w a c X) (e : X.length = n) (hin : i < n) (h' : Is w a' c' Y) (e' : Y.length = n') (hin' : i < n') :
    Calls Try.prog 86 #[.int .i64 i, .pointer (some ⟨B, 0, none⟩), .pointer (some ⟨B', 0, none⟩)] w fun e w' => e = .returned (.tuple #[.agg #[.int .i64 (hi (ml (gt X i) (gt Y i))), .int .i64 (lo (ml (gt X i) (gt Y i)))], .bool (co (gt X i) || co (gt Y i))]) ∧ ∃ x : Ext w, w' = x.u := by
  obtain ⟨b, o, rfl, hb, hcs⟩ := h.at' i (by omega)
  have hci := hcs i (by omega)
  obtain ⟨b', o', rfl, hb', hcs'⟩ := h'.at' i (by omega)
  have hci' := hcs' i (by omega)
  have hi' : (i : Int) < n := by omega
  have hi2 : (i : Int) < n' := by omega
  have hB1 : B < w.heap.size + 1 := by omega
  have hb1 : b < w.heap.size + 1 := by omega
  have hB2 : B' < w.heap.size + 1 := by omega
  have hb2 : b' < w.heap.size + 1 := by omega
  generalize hx : gt X i = q at *
  generalize hy : gt Y i = r at *
  have hml : Hid (ml (cl q) (cl r) = ml q r) := ml_cl2 q r
  clear h hcs h' hcs'
  cases hq : co q
  all_goals
    go_enter Try.func86, Try.ntmps86
    go_wp2_with (first | (go_at_call 39; refine (clamp_c _ _).mono ?_; rintro e w' ⟨rfl, rfl⟩) | (go_at_call 87; refine (wmul_c _ _ _).mono ?_; rintro e w' ⟨rfl, x, rfl⟩))
    rw [← hml.out]
    exact bodyPost_ret (v := .tuple #[.agg #[.int .i64 (hi (ml (cl q) (cl r))), .int .i64 (lo (ml (cl q) (cl r)))], .bool _]) (by simp [results, Try.results86, go_sem]) rfl ⟨rfl, Mr.mk' (by repeat (first | (with_reducible exact Mr.refl _) | (with_reducible apply Mr.drew) | (with_reducible apply Mr.alloc) | (with_reducible apply Mr.ext) | (with_reducible refine Mr.setCell ?_ (by first | (simp; done) | (simp; omega) | omega | (refine leOf0 ?_; (repeat (first | (with_reducible exact Mr.refl _) | (with_reducible apply Mr.drew) | (with_reducible apply Mr.alloc) | (with_reducible apply Mr.ext) | (with_reducible refine Mr.setCell ?_ (by first | (simp; done) | (simp; omega) | omega) _))); done) | (refine leOf ?_; (repeat (first | (with_reducible exact Mr.refl _) | (with_reducible apply Mr.drew) | (with_reducible apply Mr.alloc) | (with_reducible apply Mr.ext) | (with_reducible refine Mr.setCell ?_ (by first | (simp; done) | (simp; omega) | omega) _))); done)) _)))⟩
end Sm
end Go.Proofs.Ytkhfkfofggiadaa
