/- For every list of tasks, of words and of picks, and every int, the law TaskApart answers true: who is not picked stays; picked alone, all that happens is its own steps. No condition. -/
import Derived.Test.YteomkfgkhmdehaaRows
import Derived.WalkKit
import Derived.ProofKit
import Derived.OpenShut
import Derived.ShutString
import Derived.ChangeOld
import Derived.Below
import Derived.Test.YteomkfgkhmdehaaTaskC2
import Derived.Test.YteomkfgkhmdehaaTaskR
import Derived.Test.YteomkfgkhmdehaaTaskM3
import Derived.Test.YteomkfgkhmdehaaRefC36
import Derived.Test.YteomkfgkhmdehaaRowW
namespace Go.Proofs.Yteomkfgkhmdehaa.taskApart
open Go.ChangeShapes Go.WideShapes Go.ChangeAt Go.RowKit
set_option linter.unusedVariables false
theorem own : ownKnob Try.prog.godebug = none := by kernel_rfl
theorem laidOut : laidOutB Try.prog = true := by kernel_rfl

open Go.Proofs.Yteomkfgkhmdehaa.Tk Go.Proofs.Yteomkfgkhmdehaa.Ce Go.Proofs.Yteomkfgkhmdehaa.Wl Go.Proofs.Yteomkfgkhmdehaa.Rw
set_option linter.unusedSimpArgs false
attribute [local go_sem] Ext.cell Ext.froz Ext.lt Ext.lt1 Ext.lt2 Ext.lt3 Ext.all drew_heap setCell_size Ext.set_size
attribute [-go_sem] loadCells
attribute [local go_sem] andffff
set_option maxHeartbeats 4000000 in
set_option maxRecDepth 100000 in
theorem walk (s0 : Option Addr) (n0 c0 : Nat) (s1 : Option Addr) (n1 c1 : Nat) (z1 : List Int) (s2 : Option Addr) (n2 c2 : Nat) (z2 : List Int) (a3 : Int) (w : World) (w0 : ∃ L : List Tk.Te, L.length = n0 ∧ Tk.Tes w s0 c0 L) (w1 : Wl.IsRow .u64 w s1 n1 c1 z1) (w2 : IsRow .i64 w s2 n2 c2 z2) (w3 : (Lit.int .i64 a3).wf = true) :
    Calls Try.prog 6 #[.slice s0 n0 c0, .slice s1 n1 c1, .slice s2 n2 c2, .int .i64 a3] w fun e w' => e = .returned (.bool true) ∧ Below w.heap.size w w' := by
  obtain ⟨L, eL, hL⟩ := w0
  obtain ⟨l, eM, hM⟩ := of_row w1
  obtain ⟨ps, eP, hP⟩ := ints_row w2
  have hz := i64_bd w3
  clear w1 w2 w3
  have hL9 : n0 ≤ 9223372036854775807 := by have := hL.1.max; have := hL.1.le; unfold maxLen at *; omega
  have hM9 : n1 ≤ 9223372036854775807 := by have := hM.max; have := hM.le; unfold maxLen at *; omega
  have hP9 : n2 ≤ 9223372036854775807 := by have := hP.max; have := hP.le; unfold maxLen at *; omega
  obtain ⟨N, eN⟩ : ∃ N, (cut l).length = N := ⟨_, rfl⟩
  cases hfew : few (L.map Tk.Te.t)
  · go_enter Try.func6, Try.ntmps6
    go_wp2_with (first | (go_at_call 9; refine (awake12_c _).mono ?_; rintro e w' ⟨rfl, x0, rfl⟩) | (go_at_call 10; refine (rfew12_c _ (hL.mr (by repeat (first | (with_reducible exact Mr.refl _) | (with_reducible assumption) | (with_reducible apply Mr.drew) | (with_reducible apply Mr.alloc) | (with_reducible apply Mr.ext) | (with_reducible refine Mr.setCell ?_ (by first | (simp; done) | (simp; omega) | omega | (refine leOf0 ?_; (repeat (first | (with_reducible exact Mr.refl _) | (with_reducible apply Mr.drew) | (with_reducible apply Mr.alloc) | (with_reducible apply Mr.ext) | (with_reducible refine Mr.setCell ?_ (by first | (simp; done) | (simp; omega) | omega) _))); done) | (refine leOf ?_; (repeat (first | (with_reducible exact Mr.refl _) | (with_reducible apply Mr.drew) | (with_reducible apply Mr.alloc) | (with_reducible apply Mr.ext) | (with_reducible refine Mr.setCell ?_ (by first | (simp; done) | (simp; omega) | omega) _))); done)) _)))) eL).mono ?_; rw [hfew]; rintro e w' ⟨rfl, rfl⟩))
    go_ret; exact ⟨rfl, Mr.grown (by repeat (first | (with_reducible exact Mr.refl _) | (with_reducible assumption) | (with_reducible apply Mr.drew) | (with_reducible apply Mr.alloc) | (with_reducible apply Mr.ext) | (with_reducible refine Mr.setCell ?_ (by first | (simp; done) | (simp; omega) | omega | (refine leOf0 ?_; (repeat (first | (with_reducible exact Mr.refl _) | (with_reducible apply Mr.drew) | (with_reducible apply Mr.alloc) | (with_reducible apply Mr.ext) | (with_reducible refine Mr.setCell ?_ (by first | (simp; done) | (simp; omega) | omega) _))); done) | (refine leOf ?_; (repeat (first | (with_reducible exact Mr.refl _) | (with_reducible apply Mr.drew) | (with_reducible apply Mr.alloc) | (with_reducible apply Mr.ext) | (with_reducible refine Mr.setCell ?_ (by first | (simp; done) | (simp; omega) | omega) _))); done)) _)))⟩
  · have hn12 : n0 ≤ 12 := by
      unfold few at hfew
      rw [Bool.and_eq_true, decide_eq_true_eq, List.length_map] at hfew
      omega
    have hn1000 : n0 ≤ 1000 := by omega
    by_cases hm3 : (256 : Int) < n1
    · go_enter Try.func6, Try.ntmps6
      go_wp2_with (first | (go_at_call 9; refine (awake12_c _).mono ?_; rintro e w' ⟨rfl, x0, rfl⟩) | (go_at_call 10; refine (rfew12_c _ (hL.mr (by repeat (first | (with_reducible exact Mr.refl _) | (with_reducible assumption) | (with_reducible apply Mr.drew) | (with_reducible apply Mr.alloc) | (with_reducible apply Mr.ext) | (with_reducible refine Mr.setCell ?_ (by first | (simp; done) | (simp; omega) | omega | (refine leOf0 ?_; (repeat (first | (with_reducible exact Mr.refl _) | (with_reducible apply Mr.drew) | (with_reducible apply Mr.alloc) | (with_reducible apply Mr.ext) | (with_reducible refine Mr.setCell ?_ (by first | (simp; done) | (simp; omega) | omega) _))); done) | (refine leOf ?_; (repeat (first | (with_reducible exact Mr.refl _) | (with_reducible apply Mr.drew) | (with_reducible apply Mr.alloc) | (with_reducible apply Mr.ext) | (with_reducible refine Mr.setCell ?_ (by first | (simp; done) | (simp; omega) | omega) _))); done)) _)))) eL).mono ?_; rw [hfew]; rintro e w' ⟨rfl, rfl⟩))
      go_ret; exact ⟨rfl, Mr.grown (by repeat (first | (with_reducible exact Mr.refl _) | (with_reducible assumption) | (with_reducible apply Mr.drew) | (with_reducible apply Mr.alloc) | (with_reducible apply Mr.ext) | (with_reducible refine Mr.setCell ?_ (by first | (simp; done) | (simp; omega) | omega | (refine leOf0 ?_; (repeat (first | (with_reducible exact Mr.refl _) | (with_reducible apply Mr.drew) | (with_reducible apply Mr.alloc) | (with_reducible apply Mr.ext) | (with_reducible refine Mr.setCell ?_ (by first | (simp; done) | (simp; omega) | omega) _))); done) | (refine leOf ?_; (repeat (first | (with_reducible exact Mr.refl _) | (with_reducible apply Mr.drew) | (with_reducible apply Mr.alloc) | (with_reducible apply Mr.ext) | (with_reducible refine Mr.setCell ?_ (by first | (simp; done) | (simp; omega) | omega) _))); done)) _)))⟩
    · by_cases hp3 : (300 : Int) < n2
      · go_enter Try.func6, Try.ntmps6
        go_wp2_with (first | (go_at_call 9; refine (awake12_c _).mono ?_; rintro e w' ⟨rfl, x0, rfl⟩) | (go_at_call 10; refine (rfew12_c _ (hL.mr (by repeat (first | (with_reducible exact Mr.refl _) | (with_reducible assumption) | (with_reducible apply Mr.drew) | (with_reducible apply Mr.alloc) | (with_reducible apply Mr.ext) | (with_reducible refine Mr.setCell ?_ (by first | (simp; done) | (simp; omega) | omega | (refine leOf0 ?_; (repeat (first | (with_reducible exact Mr.refl _) | (with_reducible apply Mr.drew) | (with_reducible apply Mr.alloc) | (with_reducible apply Mr.ext) | (with_reducible refine Mr.setCell ?_ (by first | (simp; done) | (simp; omega) | omega) _))); done) | (refine leOf ?_; (repeat (first | (with_reducible exact Mr.refl _) | (with_reducible apply Mr.drew) | (with_reducible apply Mr.alloc) | (with_reducible apply Mr.ext) | (with_reducible refine Mr.setCell ?_ (by first | (simp; done) | (simp; omega) | omega) _))); done)) _)))) eL).mono ?_; rw [hfew]; rintro e w' ⟨rfl, rfl⟩))
        go_ret; exact ⟨rfl, Mr.grown (by repeat (first | (with_reducible exact Mr.refl _) | (with_reducible assumption) | (with_reducible apply Mr.drew) | (with_reducible apply Mr.alloc) | (with_reducible apply Mr.ext) | (with_reducible refine Mr.setCell ?_ (by first | (simp; done) | (simp; omega) | omega | (refine leOf0 ?_; (repeat (first | (with_reducible exact Mr.refl _) | (with_reducible apply Mr.drew) | (with_reducible apply Mr.alloc) | (with_reducible apply Mr.ext) | (with_reducible refine Mr.setCell ?_ (by first | (simp; done) | (simp; omega) | omega) _))); done) | (refine leOf ?_; (repeat (first | (with_reducible exact Mr.refl _) | (with_reducible apply Mr.drew) | (with_reducible apply Mr.alloc) | (with_reducible apply Mr.ext) | (with_reducible refine Mr.setCell ?_ (by first | (simp; done) | (simp; omega) | omega) _))); done)) _)))⟩
      · by_cases hn0 : n0 = 0
        · have hn0i : (n0 : Int) = 0 := by omega
          clear hn0
          go_enter Try.func6, Try.ntmps6
          go_wp2_with (first | (go_at_call 9; refine (awake12_c _).mono ?_; rintro e w' ⟨rfl, x0, rfl⟩) | (go_at_call 10; refine (rfew12_c _ (hL.mr (by repeat (first | (with_reducible exact Mr.refl _) | (with_reducible assumption) | (with_reducible apply Mr.drew) | (with_reducible apply Mr.alloc) | (with_reducible apply Mr.ext) | (with_reducible refine Mr.setCell ?_ (by first | (simp; done) | (simp; omega) | omega | (refine leOf0 ?_; (repeat (first | (with_reducible exact Mr.refl _) | (with_reducible apply Mr.drew) | (with_reducible apply Mr.alloc) | (with_reducible apply Mr.ext) | (with_reducible refine Mr.setCell ?_ (by first | (simp; done) | (simp; omega) | omega) _))); done) | (refine leOf ?_; (repeat (first | (with_reducible exact Mr.refl _) | (with_reducible apply Mr.drew) | (with_reducible apply Mr.alloc) | (with_reducible apply Mr.ext) | (with_reducible refine Mr.setCell ?_ (by first | (simp; done) | (simp; omega) | omega) _))); done)) _)))) eL).mono ?_; rw [hfew]; rintro e w' ⟨rfl, rfl⟩))
          go_ret; exact ⟨rfl, Mr.grown (by repeat (first | (with_reducible exact Mr.refl _) | (with_reducible assumption) | (with_reducible apply Mr.drew) | (with_reducible apply Mr.alloc) | (with_reducible apply Mr.ext) | (with_reducible refine Mr.setCell ?_ (by first | (simp; done) | (simp; omega) | omega | (refine leOf0 ?_; (repeat (first | (with_reducible exact Mr.refl _) | (with_reducible apply Mr.drew) | (with_reducible apply Mr.alloc) | (with_reducible apply Mr.ext) | (with_reducible refine Mr.setCell ?_ (by first | (simp; done) | (simp; omega) | omega) _))); done) | (refine leOf ?_; (repeat (first | (with_reducible exact Mr.refl _) | (with_reducible apply Mr.drew) | (with_reducible apply Mr.alloc) | (with_reducible apply Mr.ext) | (with_reducible refine Mr.setCell ?_ (by first | (simp; done) | (simp; omega) | omega) _))); done)) _)))⟩
        · have hn0' : ((n0 : Int) == 0) = false := by simp only [beq_eq_false_iff_ne, ne_eq]; omega
          have hn0'' : ¬ (n0 : Int) = 0 := by omega
          have hn00 : 0 < n0 := by omega
          obtain ⟨I, hI, hIn, -⟩ := whom_at hn00 a3
          go_enter Try.func6, Try.ntmps6
          go_wp2_with (first | (go_at_call 9; refine (awake12_c _).mono ?_; rintro e w' ⟨rfl, x0, rfl⟩) | (go_at_call 10; refine (rfew12_c _ (hL.mr (by repeat (first | (with_reducible exact Mr.refl _) | (with_reducible assumption) | (with_reducible apply Mr.drew) | (with_reducible apply Mr.alloc) | (with_reducible apply Mr.ext) | (with_reducible refine Mr.setCell ?_ (by first | (simp; done) | (simp; omega) | omega | (refine leOf0 ?_; (repeat (first | (with_reducible exact Mr.refl _) | (with_reducible apply Mr.drew) | (with_reducible apply Mr.alloc) | (with_reducible apply Mr.ext) | (with_reducible refine Mr.setCell ?_ (by first | (simp; done) | (simp; omega) | omega) _))); done) | (refine leOf ?_; (repeat (first | (with_reducible exact Mr.refl _) | (with_reducible apply Mr.drew) | (with_reducible apply Mr.alloc) | (with_reducible apply Mr.ext) | (with_reducible refine Mr.setCell ?_ (by first | (simp; done) | (simp; omega) | omega) _))); done)) _)))) eL).mono ?_; rw [hfew]; rintro e w' ⟨rfl, rfl⟩))
          go_loopw [11, 12, 13] (fun v u i wr => ∃ j : Nat, j ≤ n2 ∧ i = .int .i64 j ∧ Two w.heap.size wr v u (oth n0 I ps j).length (cnt n0 I ps j) (oth n0 I ps j) (List.replicate (cnt n0 I ps j) (I : Int)) ∧ Mr w wr) (fun _ _ i _ => (n2 - intOf i).toNat)
          case atStart => exact ⟨0, by omega, rfl, ⟨World.ownsRow_nil _ _ _ _, World.ownsRow_nil _ _ _ _, fun b e => by cases e⟩, (by repeat (first | (with_reducible exact Mr.refl _) | (with_reducible assumption) | (with_reducible apply Mr.drew) | (with_reducible apply Mr.alloc) | (with_reducible apply Mr.ext) | (with_reducible refine Mr.setCell ?_ (by first | (simp; done) | (simp; omega) | omega | (refine leOf0 ?_; (repeat (first | (with_reducible exact Mr.refl _) | (with_reducible apply Mr.drew) | (with_reducible apply Mr.alloc) | (with_reducible apply Mr.ext) | (with_reducible refine Mr.setCell ?_ (by first | (simp; done) | (simp; omega) | omega) _))); done) | (refine leOf ?_; (repeat (first | (with_reducible exact Mr.refl _) | (with_reducible apply Mr.drew) | (with_reducible apply Mr.alloc) | (with_reducible apply Mr.ext) | (with_reducible refine Mr.setCell ?_ (by first | (simp; done) | (simp; omega) | omega) _))); done)) _)))⟩
          case round =>
            obtain ⟨j, hj, rfl, hTwo, hmr⟩ := hrel
            by_cases hlt : j < n2
            · have hlt' : (j : Int) < n2 := by omega
              obtain ⟨bp, op, rfl, hbp, hcp⟩ := (hP.mr hmr).at' j (by omega)
              replace hcp := hcp j (by omega)
              have hcl := cnt_le n0 I ps j
              obtain ⟨Qv, hQ, hQn, hQe⟩ := whom_at hn00 (Sl.gt ps j)
              have hQi : Sl.gt ps j % 65536 % (n0 : Int) = Qv := by
                have := Int.emod_nonneg (Sl.gt ps j % 65536) (b := (n0 : Int)) (by omega)
                omega
              have hO' : Hid (oth n0 I ps (j + 1) = oth n0 I ps j ++ if Qv = I then [] else [(Qv : Int)]) := by rw [Hid, oth, hQe, hQi]
              have hC' : Hid (cnt n0 I ps (j + 1) = cnt n0 I ps j + if Qv = I then 1 else 0) := by rw [Hid, cnt, hQe]
              have hb1 : (oth n0 I ps j).length ≤ 1000000 := by omega
              have hb2 : cnt n0 I ps j ≤ 1000000 := by omega
              clear hQi hQe hcl
              generalize Sl.gt ps j = P at *
              by_cases he : Qv = I
              · rw [Hid, if_pos he] at hO' hC'
                rw [List.append_nil] at hO'
                subst he
                replace hO' : Hid _ := hO'
                replace hC' : Hid _ := hC'
                go_wp2_with (first | (at_builtin; refine append_two rfl _ _ rfl rfl hTwo.swap (Qv : Int) rfl hb2 hmr.below.size ?_; intro v' w1 hTwo' hgrow; have hm1 : Mr w w1 := (hmr.alloc _).grownBy hgrow (fun j e => (hTwo.two.lt j e).1); clear hgrow hTwo hmr))
                go_roundw
                case rel => exact ⟨j + 1, by omega, by go_num, by rw [hO'.out, hC'.out, List.replicate_succ']; exact hTwo'.swap, hm1⟩
                case measure => simp [intOf]; omega
              · rw [Hid, if_neg he] at hO' hC'
                replace hO' : Hid _ := hO'
                replace hC' : Hid _ := hC'
                have he1 : ((Qv : Int) == (I : Int)) = false := by simp only [beq_eq_false_iff_ne, ne_eq]; omega
                have he2 : ¬ (Qv : Int) = I := by omega
                clear he
                go_wp2_with (first | (at_builtin; refine append_two rfl _ _ rfl rfl hTwo (Qv : Int) rfl hb1 hmr.below.size ?_; intro v' w1 hTwo' hgrow; have hm1 : Mr w w1 := (hmr.alloc _).grownBy hgrow (fun j e => (hTwo.one.lt j e).1); clear hgrow hTwo hmr))
                go_roundw
                case rel => exact ⟨j + 1, by omega, by go_num, by rw [hO'.out, hC'.out, List.length_append]; exact hTwo', hm1⟩
                case measure => simp [intOf]; omega
            · obtain rfl : j = n2 := by omega
              have hcl := cnt_le n0 I ps j
              have hom := oth_mem (I := I) hn00 (ps := ps) (j := j)
              obtain ⟨oa, oc, rfl, -, hO⟩ := Sl.of_owns hTwo.one (bd_of (fun p hp => (hom p hp).2))
              obtain ⟨ea, ec, rfl, -, hE⟩ := Sl.of_owns hTwo.two (rep_bd (by omega))
              have hO5 : (oth n0 I ps j).length ≤ 100000 := by omega
              have hC5 : cnt n0 I ps j ≤ 100000 := by omega
              have hmost : Hid (most (cnt n0 I ps j : Int) = cnt n0 I ps j) := most_nat (by omega)
              have hCb : -9223372036854775808 ≤ (cnt n0 I ps j : Int) ∧ (cnt n0 I ps j : Int) ≤ 9223372036854775807 := by omega
              rw [List.length_replicate] at *
              generalize oth n0 I ps j = OT at *
              generalize cnt n0 I ps j = C at *
              obtain ⟨bl, ol, XL, rfl, hXL, hXi⟩ := te_split (j := I) hL (by omega)
              have hLm : (L.map Tk.Te.t).length = n0 := by rw [List.length_map, eL]
              have fA := runA_not (l := L.map Tk.Te.t) (i := I) (ps := OT) (fun p hp => by rw [hLm]; exact (hom p hp).1) l
              have fB := runA_own (l := L.map Tk.Te.t) (i := I) (by omega) (ps := List.replicate C (I : Int)) (fun p hp => by rw [hLm]; exact own_mem hIn p hp) l
              have fJ : ∀ q, q ≠ I → tk (runA (L.map Tk.Te.t) l (List.replicate C (I : Int))).1 q = tk (L.map Tk.Te.t) q := fun q hq => runA_not (i := q) (fun p hp => by rw [hLm, own_mem hIn p hp]; exact fun e => hq e.symm) l
              rw [tk_get2 hXL, List.length_replicate] at fB
              rw [tk_get2 hXL] at fA
              have lA : (runA (L.map Tk.Te.t) l OT).1.length = n0 := by rw [runA_len, hLm]
              have lB : (runA (L.map Tk.Te.t) l (List.replicate C (I : Int))).1.length = n0 := by rw [runA_len, hLm]
              have lM : (runA (L.map Tk.Te.t) l (List.replicate C (I : Int))).2.length = N := by rw [runA_mem, eN]
              replace fA : Hid _ := fA
              replace fB : Hid _ := fB
              replace fJ : Hid _ := fJ
              replace lA : Hid _ := lA
              replace lB : Hid _ := lB
              replace lM : Hid _ := lM
              have k1 : Unit := ()
              clear hTwo hcl hom hlt
              go_wp2_with (first | (go_at_call 11; (have := k1; clear this k1); refine (trun_c (L := L) (m := l) (ps := OT) _ (hL.mr hmr) eL (hM.mr hmr) eM hO rfl hn1000 hO5).mono ?_; rw [eN]; rintro e w' ⟨ra1, d1, L1, ra2, d2, rfl, hmA, x1, rfl, hR1, -⟩; have m1 := hmr.trans x1.h; have hE1 := hE.mr x1.h; clear hmr hE hO; generalize x1.u = W1 at *; clear x1) | (go_at_call 11; refine (trun_c (L := L) (m := l) (ps := List.replicate C (I : Int)) _ (hL.mr m1) eL (hM.mr m1) eM hE1 (List.length_replicate ..) hn1000 hC5).mono ?_; rw [eN]; rintro e w' ⟨ra3, d3, L2, ra4, d4, rfl, hmB, x2, rfl, hR2, hM2⟩; have m2 := m1.trans x2.h; have hR1a := hR1.mr x2.h; clear m1 hE1 hR1; generalize x2.u = W2 at *; clear x2; have hl := te_load hL hXL m2) | (go_at_call 22; refine (tsteps_c (t := XL.t) (m := l) _ (Tis.mr hXi m2) (hM.mr m2) eM hCb).mono ?_; rw [eN, hmost.out]; rintro e w' ⟨ca3, cc3, sa3, sc3, rfl, y3, rfl, hM3, hT3⟩; have m3 := m2.trans y3.h; have hR1b := hR1a.mr y3.h; have hR2b := hR2.mr y3.h; have hM2b := hM2.mr y3.h; clear m2 hR1a hR2 hM2; generalize eR3 : Tk.runT C XL.t l = R3 at *; replace eR3 : Hid _ := eR3; have hsz3 := sizeT (ca := ca3) (cc := cc3) hT3.2.len; have hV3 : Hid ((TV ca3 cc3 R3.1).size = 36) := TV_size hT3.2.len; have hVo3 := TV_one ca3 cc3 R3.1; generalize y3.u = W3 at *; clear y3) | (refine wpList_store_row rfl 37 _ _ rfl W3.heap.size _ rfl rfl 37 _ (Row.new W3 37 #[Value.slice none 0 0, Value.int IntKind.i64 0, Value.int IntKind.u64 0, Value.int IntKind.u64 0, Value.int IntKind.u64 0, Value.int IntKind.u64 0, Value.int IntKind.u64 0, Value.int IntKind.u64 0, Value.int IntKind.u64 0, Value.int IntKind.u64 0, Value.int IntKind.u64 0, Value.int IntKind.u64 0, Value.int IntKind.u64 0, Value.int IntKind.u64 0, Value.int IntKind.u64 0, Value.int IntKind.u64 0, Value.int IntKind.u64 0, Value.int IntKind.u64 0, Value.int IntKind.u64 0, Value.int IntKind.u64 0, Value.int IntKind.u64 0, Value.int IntKind.u64 0, Value.int IntKind.u64 0, Value.int IntKind.u64 0, Value.int IntKind.u64 0, Value.int IntKind.u64 0, Value.int IntKind.u64 0, Value.int IntKind.u64 0, Value.int IntKind.u64 0, Value.int IntKind.u64 0, Value.int IntKind.u64 0, Value.int IntKind.u64 0, Value.int IntKind.u64 0, Value.int IntKind.u64 0, Value.bool false, Value.int IntKind.i64 0]) hsz3 (z36_size2.trans hV3.out.symm) hVo3 ?_; have hB3 := Row.row (Row.new W3 37 #[Value.slice none 0 0, Value.int IntKind.i64 0, Value.int IntKind.u64 0, Value.int IntKind.u64 0, Value.int IntKind.u64 0, Value.int IntKind.u64 0, Value.int IntKind.u64 0, Value.int IntKind.u64 0, Value.int IntKind.u64 0, Value.int IntKind.u64 0, Value.int IntKind.u64 0, Value.int IntKind.u64 0, Value.int IntKind.u64 0, Value.int IntKind.u64 0, Value.int IntKind.u64 0, Value.int IntKind.u64 0, Value.int IntKind.u64 0, Value.int IntKind.u64 0, Value.int IntKind.u64 0, Value.int IntKind.u64 0, Value.int IntKind.u64 0, Value.int IntKind.u64 0, Value.int IntKind.u64 0, Value.int IntKind.u64 0, Value.int IntKind.u64 0, Value.int IntKind.u64 0, Value.int IntKind.u64 0, Value.int IntKind.u64 0, Value.int IntKind.u64 0, Value.int IntKind.u64 0, Value.int IntKind.u64 0, Value.int IntKind.u64 0, Value.int IntKind.u64 0, Value.int IntKind.u64 0, Value.bool false, Value.int IntKind.i64 0]) (TV ca3 cc3 R3.1); have gg3 := m3.below.size; have mx3 := mr_row (m3.alloc (.cells #[Value.slice none 0 0, Value.int IntKind.i64 0, Value.int IntKind.u64 0, Value.int IntKind.u64 0, Value.int IntKind.u64 0, Value.int IntKind.u64 0, Value.int IntKind.u64 0, Value.int IntKind.u64 0, Value.int IntKind.u64 0, Value.int IntKind.u64 0, Value.int IntKind.u64 0, Value.int IntKind.u64 0, Value.int IntKind.u64 0, Value.int IntKind.u64 0, Value.int IntKind.u64 0, Value.int IntKind.u64 0, Value.int IntKind.u64 0, Value.int IntKind.u64 0, Value.int IntKind.u64 0, Value.int IntKind.u64 0, Value.int IntKind.u64 0, Value.int IntKind.u64 0, Value.int IntKind.u64 0, Value.int IntKind.u64 0, Value.int IntKind.u64 0, Value.int IntKind.u64 0, Value.int IntKind.u64 0, Value.int IntKind.u64 0, Value.int IntKind.u64 0, Value.int IntKind.u64 0, Value.int IntKind.u64 0, Value.int IntKind.u64 0, Value.int IntKind.u64 0, Value.int IntKind.u64 0, Value.bool false, Value.int IntKind.i64 0] 37)) (g := W3.heap.size) (by omega) (TV ca3 cc3 R3.1); have mm3 := mr_row ((Mr.refl W3).alloc (.cells #[Value.slice none 0 0, Value.int IntKind.i64 0, Value.int IntKind.u64 0, Value.int IntKind.u64 0, Value.int IntKind.u64 0, Value.int IntKind.u64 0, Value.int IntKind.u64 0, Value.int IntKind.u64 0, Value.int IntKind.u64 0, Value.int IntKind.u64 0, Value.int IntKind.u64 0, Value.int IntKind.u64 0, Value.int IntKind.u64 0, Value.int IntKind.u64 0, Value.int IntKind.u64 0, Value.int IntKind.u64 0, Value.int IntKind.u64 0, Value.int IntKind.u64 0, Value.int IntKind.u64 0, Value.int IntKind.u64 0, Value.int IntKind.u64 0, Value.int IntKind.u64 0, Value.int IntKind.u64 0, Value.int IntKind.u64 0, Value.int IntKind.u64 0, Value.int IntKind.u64 0, Value.int IntKind.u64 0, Value.int IntKind.u64 0, Value.int IntKind.u64 0, Value.int IntKind.u64 0, Value.int IntKind.u64 0, Value.int IntKind.u64 0, Value.int IntKind.u64 0, Value.int IntKind.u64 0, Value.bool false, Value.int IntKind.i64 0] 37)) (g := W3.heap.size) (by omega) (TV ca3 cc3 R3.1); have hR1c := hR1b.mr mm3; have hR2c := hR2b.mr mm3; have hM2c := hM2b.mr mm3; have hT3a := hT3.mr mm3; have hM3a := hM3.mr mm3; clear m3 gg3 hR1b hR2b hM2b hT3 hM3 mm3; generalize (W3.alloc (.cells #[Value.slice none 0 0, Value.int IntKind.i64 0, Value.int IntKind.u64 0, Value.int IntKind.u64 0, Value.int IntKind.u64 0, Value.int IntKind.u64 0, Value.int IntKind.u64 0, Value.int IntKind.u64 0, Value.int IntKind.u64 0, Value.int IntKind.u64 0, Value.int IntKind.u64 0, Value.int IntKind.u64 0, Value.int IntKind.u64 0, Value.int IntKind.u64 0, Value.int IntKind.u64 0, Value.int IntKind.u64 0, Value.int IntKind.u64 0, Value.int IntKind.u64 0, Value.int IntKind.u64 0, Value.int IntKind.u64 0, Value.int IntKind.u64 0, Value.int IntKind.u64 0, Value.int IntKind.u64 0, Value.int IntKind.u64 0, Value.int IntKind.u64 0, Value.int IntKind.u64 0, Value.int IntKind.u64 0, Value.int IntKind.u64 0, Value.int IntKind.u64 0, Value.int IntKind.u64 0, Value.int IntKind.u64 0, Value.int IntKind.u64 0, Value.int IntKind.u64 0, Value.int IntKind.u64 0, Value.bool false, Value.int IntKind.i64 0] 37)).setRow W3.heap.size (TV ca3 cc3 R3.1) = X3 at *; generalize W3.heap.size = U3 at *; have lb3 := hB3.lt))
              have eL1 : L1.length = n0 := by have := congrArg List.length hmA; rw [List.length_map, lA.out] at this; exact this
              have eL2 : L2.length = n0 := by have := congrArg List.length hmB; rw [List.length_map, lB.out] at this; exact this
              obtain ⟨ba, oa2, XA, rfl, hXA, hXAi⟩ := te_split (j := I) hR1c (by omega)
              obtain ⟨bb, ob2, XB, rfl, hXB, hXBi⟩ := te_split (j := I) hR2c (by omega)
              have eA : XA.t = XL.t := by rw [← tk_get2 hXA, hmA, fA.out]
              have eB : XB.t = R3.1 := by rw [← tk_get2 hXB, hmB, fB.out.1]
              have eMM : (runA (L.map Tk.Te.t) l (List.replicate C (I : Int))).2 = R3.2.1 := fB.out.2
              have l3 : R3.2.1.length = N := by rw [← eMM]; exact lM.out
              have hla : ∀ x : Ext X3, (loadCells ⟨ba, oa2 + I * 36, none⟩ 36).run Try.prog x.u = .ok (TV XA.ca XA.cc XA.t) x.u := fun x => te_load hR1c hXA x.h
              have hlb : ∀ x : Ext X3, (loadCells ⟨bb, ob2 + I * 36, none⟩ 36).run Try.prog x.u = .ok (TV XB.ca XB.cc XB.t) x.u := fun x => te_load hR2c hXB x.h
              have hll : ∀ x : Ext X3, (loadCells ⟨bl, ol + I * 36, none⟩ 36).run Try.prog x.u = .ok (TV XL.ca XL.cc XL.t) x.u := fun x => te_load hL hXL (mx3.trans x.h)
              have hlt : ∀ x : Ext X3, (loadCells ⟨U3, 0, none⟩ 36).run Try.prog x.u = .ok (TV ca3 cc3 R3.1) x.u := fun x => row_load (hB3.mr x.h) hV3.out
              have hs1 : ∀ x : Ext X3, Calls Try.prog 17 #[.agg (TV XA.ca XA.cc XA.t), .agg (TV XL.ca XL.cc XL.t)] x.u fun e w' => e = .returned (.bool true) ∧ ∃ z : Ext x.u, w' = z.u := fun x => by
                have := rsame12_c x.u (Tis.mr hXAi x.h) (Tis.mr hXi (mx3.trans x.h))
                rw [show decide (XA.t = XL.t) = true from decide_eq_true eA] at this
                exact this
              have hs2 : ∀ x : Ext X3, Calls Try.prog 17 #[.agg (TV XB.ca XB.cc XB.t), .agg (TV ca3 cc3 R3.1)] x.u fun e w' => e = .returned (.bool true) ∧ ∃ z : Ext x.u, w' = z.u := fun x => by
                have := rsame12_c x.u (Tis.mr hXBi x.h) (hT3a.mr x.h)
                rw [show decide (XB.t = R3.1) = true from decide_eq_true eB] at this
                exact this
              have hs3 : ∀ x : Ext X3, Calls Try.prog 14 #[.slice ra4 N d4, .slice sa3 N sc3] x.u fun e w' => e = .returned (.bool true) ∧ ∃ z : Ext x.u, w' = z.u := fun x => by
                have := rsame11_c x.u (hM2c.mr x.h) lM.out (hM3a.mr x.h) l3
                rw [show decide ((runA (L.map Tk.Te.t) l (List.replicate C (I : Int))).2 = R3.2.1) = true from decide_eq_true eMM] at this
                exact this
              have hIn' : (I : Int) < n0 := by omega
              clear eA eB eMM hsz3 hVo3
              refine wp_region_ext (by kernel_rfl) (by kernel_rfl) ?_; (repeat (go_big_quiet_step (first | (go_at_call 17; with_reducible exact extCall (hs1 _)) | (go_at_call 17; with_reducible exact extCall (hs2 _)) | (go_at_call 14; with_reducible exact extCall (hs3 _))))); refine wpQuiet_nil ?_; rintro w9 ⟨x9, rfl⟩; have hz9 := x9.h; generalize x9.u = W9 at *; clear x9; go_wp2
              clear hla hlb hll hlt hs1 hs2 hs3
              go_loopw [21] (fun i wr => ∃ q : Nat, q ≤ n0 ∧ i = .int .i64 q ∧ ∃ y : Ext X3, wr = y.u) (fun i _ => (n0 - intOf i).toNat)
              case atStart => exact ⟨0, by omega, rfl, ⟨W9, hz9⟩, rfl⟩
              case round =>
                clear hz9
                obtain ⟨q, hq, rfl, y, rfl⟩ := hrel
                by_cases hlt : q < n0
                · have hlt' : (q : Int) < n0 := by omega
                  by_cases he : q = I
                  · subst he
                    go_wp2
                    refine wp_region_ext (by kernel_rfl) (by kernel_rfl) ?_; (repeat (go_big_quiet_step (first | (go_at_call 17; with_reducible exact extCall (hs1 _))))); refine wpQuiet_nil ?_; rintro w8 ⟨x8, rfl⟩; have hz8 := x8.h; generalize x8.u = W8 at *; clear x8; go_wp2
                    go_roundw
                    case rel => exact ⟨q + 1, by omega, by go_num, ⟨W8, y.h.trans hz8⟩, rfl⟩
                    case measure => simp [intOf]; omega
                  · obtain ⟨Y, hY⟩ : ∃ Y, L2[q]? = some Y := ⟨_, List.getElem?_eq_getElem (by omega)⟩
                    obtain ⟨Z, hZ⟩ : ∃ Z, L[q]? = some Z := ⟨_, List.getElem?_eq_getElem (by omega)⟩
                    have hYi := hR2c.2 Y (List.mem_of_getElem? hY)
                    have hZi := hL.2 Z (List.mem_of_getElem? hZ)
                    have eY : Y.t = Z.t := by rw [← tk_get2 hY, hmB, fJ.out q he, tk_get2 hZ]
                    have hlb : ∀ x : Ext y.u, (loadCells ⟨bb, ob2 + q * 36, none⟩ 36).run Try.prog x.u = .ok (TV Y.ca Y.cc Y.t) x.u := fun x => te_load hR2c hY (y.h.trans x.h)
                    have hll : ∀ x : Ext y.u, (loadCells ⟨bl, ol + q * 36, none⟩ 36).run Try.prog x.u = .ok (TV Z.ca Z.cc Z.t) x.u := fun x => te_load hL hZ ((mx3.trans y.h).trans x.h)
                    have hs1 : ∀ x : Ext y.u, Calls Try.prog 17 #[.agg (TV Y.ca Y.cc Y.t), .agg (TV Z.ca Z.cc Z.t)] x.u fun e w' => e = .returned (.bool true) ∧ ∃ z : Ext x.u, w' = z.u := fun x => by
                      have := rsame12_c x.u (Tis.mr hYi (y.h.trans x.h)) (Tis.mr hZi ((mx3.trans y.h).trans x.h))
                      rw [show decide (Y.t = Z.t) = true from decide_eq_true eY] at this
                      exact this
                    have he1 : ((q : Int) == (I : Int)) = false := by simp only [beq_eq_false_iff_ne, ne_eq]; omega
                    have he2 : ((q : Int) != (I : Int)) = true := by rw [bne, he1]; rfl
                    have he3 : (q == I) = false := by simpa using he
                    have he4 : (q != I) = true := by rw [bne, he3]; rfl
                    clear eY he
                    go_wp2
                    refine wp_region_ext (by kernel_rfl) (by kernel_rfl) ?_; (repeat (go_big_quiet_step (first | (go_at_call 17; with_reducible exact extCall (hs1 _))))); refine wpQuiet_nil ?_; rintro w8 ⟨x8, rfl⟩; have hz8 := x8.h; generalize x8.u = W8 at *; clear x8; go_wp2
                    go_roundw
                    case rel => exact ⟨q + 1, by omega, by go_num, ⟨W8, y.h.trans hz8⟩, rfl⟩
                    case measure => simp [intOf]; omega
                · obtain rfl : q = n0 := by omega
                  go_wp2
                  go_ret; exact ⟨rfl, Mr.grown (by repeat (first | (with_reducible exact Mr.refl _) | (with_reducible assumption) | (with_reducible apply Mr.drew) | (with_reducible apply Mr.alloc) | (with_reducible apply Mr.ext) | (with_reducible refine Mr.setCell ?_ (by first | (simp; done) | (simp; omega) | omega | (refine leOf0 ?_; (repeat (first | (with_reducible exact Mr.refl _) | (with_reducible apply Mr.drew) | (with_reducible apply Mr.alloc) | (with_reducible apply Mr.ext) | (with_reducible refine Mr.setCell ?_ (by first | (simp; done) | (simp; omega) | omega) _))); done) | (refine leOf ?_; (repeat (first | (with_reducible exact Mr.refl _) | (with_reducible apply Mr.drew) | (with_reducible apply Mr.alloc) | (with_reducible apply Mr.ext) | (with_reducible refine Mr.setCell ?_ (by first | (simp; done) | (simp; omega) | omega) _))); done)) _)))⟩

set_option maxRecDepth 100000 in
theorem lifted (os : Os) (started : os.Started) (H : Type) (enc : TypeId × Value → H) :
    ReturnsInHanded {} Try.checked os 6 .any (Rows.taskApartSpec.pre6 enc Try.prog Try.f6 Rows.taskApartRow.domain false) (Rows.taskApartSpec.post enc Try.prog Try.f6 false true false false) := by
  refine returnsInHanded_of_change (C := Try.checked) own started (by kernel_rfl) Try.func6
    (ChangeSpec.witness6 (enc := enc) (C := Try.checked) false ⟨#[], #[.slice none 0 0, .slice none 0 0, .slice none 0 0, .int .i64 0], []⟩ 8 (by kernel_rfl) (by kernel_rfl) (by kernel_rfl) (by kernel_rfl)) ?_
  intro W base args ds gs before hval0 hW hcnd _
  have hval : ∀ (j : Nat) t v, Try.f6.params[j]? = some t → args[j]? = some v → Value.okWide Try.prog W .any base t v := hval0
  have hW' := hW
  obtain ⟨p, q, hA0, hV, rfl, hfz, hnd⟩ := hW
  have hA : DataW.TrodAll enc Try.prog W 0 (fun _ => true) true Try.f6.params.toList args.toList ds p := hA0
  rw [Try.params6] at hA hval
  obtain ⟨v0, vs0, d0, ds0, p_0, q_0, hargs, rfl, rfl, h0, r0⟩ := trodAll_cons hA
  obtain ⟨v1, vs1, d1, ds1, p_1, q_1, rfl, rfl, rfl, h1, r1⟩ := trodAll_cons r0
  obtain ⟨v2, vs2, d2, ds2, p_2, q_2, rfl, rfl, rfl, h2, r2⟩ := trodAll_cons r1
  obtain ⟨v3, vs3, d3, ds3, p_3, q_3, rfl, rfl, rfl, h3, r3⟩ := trodAll_cons r2
  obtain ⟨rfl, rfl, rfl⟩ := trodAll_nil r3
  obtain rfl : args = #[v0, v1, v2, v3] := by cases args; simp_all
  obtain ⟨rfl, rfl⟩ := trodVars_none hV
  obtain ⟨s0, n0, c0, rfl⟩ := okWide_slice Try.underlying22 (hval 0 22 v0 rfl rfl)
  have k0 := h0
  have lt0 : ∀ x ∈ p_0, x.block < W.heap.size := by obtain ⟨m, hm⟩ := k0; exact DataW.trod_lt m _ _ _ hm
  have w0 := Tk.open_tasks h0
  obtain ⟨s1, n1, c1, rfl⟩ := okWide_slice Try.underlying23 (hval 1 23 v1 rfl rfl)
  have k1 := h1
  have lt1 : ∀ x ∈ p_1, x.block < W.heap.size := by obtain ⟨m, hm⟩ := k1; exact DataW.trod_lt m _ _ _ hm
  obtain ⟨z1, w1⟩ : ∃ zs, Wl.IsRow .u64 W s1 n1 c1 zs := by
    obtain ⟨fuel, hf⟩ := h1
    rcases open_ints Try.underlying23 Try.underlying34 (by kernel_rfl) hf with ⟨hcs, _⟩ | ⟨x, l, c, zs, hcs, _, hl, hm, hz, _, hcell, hwz⟩
    · simp [Value.cells] at hcs
      obtain ⟨rfl, rfl, rfl⟩ := hcs
      exact ⟨[], .inl ⟨rfl, rfl, rfl, rfl⟩⟩
    · simp [Value.cells] at hcs
      obtain ⟨rfl, rfl, rfl⟩ := hcs
      exact ⟨zs, .inr ⟨_, rfl, hl, hm, by simpa using hz, hcell, hwz⟩⟩
  obtain ⟨s2, n2, c2, rfl⟩ := okWide_slice Try.underlying25 (hval 2 25 v2 rfl rfl)
  have k2 := h2
  have lt2 : ∀ x ∈ p_2, x.block < W.heap.size := by obtain ⟨m, hm⟩ := k2; exact DataW.trod_lt m _ _ _ hm
  obtain ⟨z2, w2⟩ : ∃ zs, IsRow .i64 W s2 n2 c2 zs := by
    obtain ⟨fuel, hf⟩ := h2
    rcases open_ints Try.underlying25 Try.underlying3 (by kernel_rfl) hf with ⟨hcs, _⟩ | ⟨x, l, c, zs, hcs, _, hl, hm, hz, _, hcell, hwz⟩
    · simp [Value.cells] at hcs
      obtain ⟨rfl, rfl, rfl⟩ := hcs
      exact ⟨[], .inl ⟨rfl, rfl, rfl, rfl⟩⟩
    · simp [Value.cells] at hcs
      obtain ⟨rfl, rfl, rfl⟩ := hcs
      exact ⟨zs, .inr ⟨_, rfl, hl, hm, by simpa using hz, hcell, hwz⟩⟩
  obtain ⟨a3, rfl, rfl, rfl, w3⟩ := open_int Try.underlying3 (hval 3 3 v3 rfl rfl) h3
  clear hA0 hval0
  refine (walk s0 n0 c0 s1 n1 c1 z1 s2 n2 c2 z2 a3 W w0 w1 w2 w3).mono fun e W' ⟨he, bel⟩ => ?_
  subst he
  exact ⟨_, rfl, _, _, _, [], _, [], hW', trodAll_mk1 (shut_bool Try.underlying4 _), (trodAll_cons_mk (Below.trod laidOut (by kernel_rfl) (of_decide_eq_true (by kernel_rfl)) k0 bel lt0) (trodAll_cons_mk (Below.trod laidOut (by kernel_rfl) (of_decide_eq_true (by kernel_rfl)) k1 bel lt1) (trodAll_cons_mk (Below.trod laidOut (by kernel_rfl) (of_decide_eq_true (by kernel_rfl)) k2 bel lt2) (trodAll_cons_mk (shut_int Try.underlying3 w3) trodAll_mk0)))), rfl, bel.frame _, fun h => by cases h⟩

theorem over : Rows.taskApartRow.holds Try.pinned (OpenSpec.ofChange Rows.taskApartSpec) :=
  OpenClaim.holds_of_wide 6 Try.f6 rfl rfl rfl rfl rfl rfl rfl ⟨rfl, rfl, rfl, rfl, rfl⟩ rfl rfl rfl rfl rfl (by kernel_rfl) Try.func6 (by kernel_rfl)
    (of_decide_eq_true (by kernel_rfl)) (by unfold Func.isWrapper; first | (rw [if_pos (by decide +kernel)]; kernel_rfl) | (rw [if_neg (by decide +kernel)]; exact ⟨rfl, rfl⟩))
    (fun os started H enc _ => lifted os started H enc)

theorem proved : Rows.TaskApartSaid :=
  over
#print axioms proved
end Go.Proofs.Yteomkfgkhmdehaa.taskApart
