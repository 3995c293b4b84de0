/- For every list of words the law TaskLoads answers true: a program that lays them and loads them has them. No condition. -/
import Derived.Test.YteomkfgkhmdehaaRows
import Derived.WalkKit
import Derived.ProofKit
import Derived.OpenShut
import Derived.ShutString
import Derived.ChangeOld
import Derived.Below
import Derived.Test.YteomkfgkhmdehaaTaskC2
import Derived.Test.YteomkfgkhmdehaaTaskR
import Derived.Test.YteomkfgkhmdehaaTaskM3
import Derived.Test.YteomkfgkhmdehaaRowW
import Derived.Test.YteomkfgkhmdehaaCellC
namespace Go.Proofs.Yteomkfgkhmdehaa.taskLoads
open Go.ChangeShapes Go.WideShapes Go.ChangeAt Go.RowKit
set_option linter.unusedVariables false
theorem own : ownKnob Try.prog.godebug = none := by kernel_rfl
theorem laidOut : laidOutB Try.prog = true := by kernel_rfl

open Go.Proofs.Yteomkfgkhmdehaa.Tk Go.Proofs.Yteomkfgkhmdehaa.Ce Go.Proofs.Yteomkfgkhmdehaa.Wl Go.Proofs.Yteomkfgkhmdehaa.Rw
set_option linter.unusedSimpArgs false
attribute [local go_sem] Ext.cell Ext.froz Ext.lt Ext.lt1 Ext.lt2 Ext.lt3 Ext.all drew_heap setCell_size Ext.set_size
attribute [-go_sem] loadCells
set_option maxHeartbeats 4000000 in
set_option maxRecDepth 100000 in
theorem walk (s0 : Option Addr) (n0 c0 : Nat) (z0 : List Int) (w : World) (w0 : Wl.IsRow .u64 w s0 n0 c0 z0) :
    Calls Try.prog 7 #[.slice s0 n0 c0] w fun e w' => e = .returned (.bool true) ∧ Below w.heap.size w w' := by
  obtain ⟨l, eL, hL⟩ := of_row w0
  clear w0
  have hm := hL.max
  have hl := hL.le
  unfold maxLen at hm
  have h9 : n0 ≤ 9223372036854775807 := by omega
  clear hm hl
  obtain ⟨ws, hws⟩ : ∃ ws, l.take 20 = ws := ⟨_, rfl⟩
  obtain ⟨k, hk⟩ : ∃ k, ws.length = k := ⟨_, rfl⟩
  have hk20 : k ≤ 20 := by rw [← hk, ← hws, List.length_take]; omega
  have hkn : k = min 20 n0 := by rw [← hk, ← hws, List.length_take, eL]
  have hgw : ∀ i, i < k → gt ws i = gt l i := fun i hi => by rw [← hws, gt_take, if_pos (by omega)]
  have hwb : Wb ws := by rw [← hws]; exact (hL.take 20).bd
  go_enter Try.func7, Try.ntmps7
  go_upto_region 2 with (first | (go_at_call 9; refine (awake12_c _).mono ?_; rintro e w' ⟨rfl, x0, rfl⟩))
  have m0 : Mr w x0.u := (by repeat (first | (with_reducible exact Mr.refl _) | (with_reducible assumption) | (with_reducible apply Mr.drew) | (with_reducible apply Mr.alloc) | (with_reducible apply Mr.ext) | (with_reducible refine Mr.setCell ?_ (by first | (simp; done) | (simp; omega) | omega | (refine leOf0 ?_; (repeat (first | (with_reducible exact Mr.refl _) | (with_reducible apply Mr.drew) | (with_reducible apply Mr.alloc) | (with_reducible apply Mr.ext) | (with_reducible refine Mr.setCell ?_ (by first | (simp; done) | (simp; omega) | omega) _))); done) | (refine leOf ?_; (repeat (first | (with_reducible exact Mr.refl _) | (with_reducible apply Mr.drew) | (with_reducible apply Mr.alloc) | (with_reducible apply Mr.ext) | (with_reducible refine Mr.setCell ?_ (by first | (simp; done) | (simp; omega) | omega) _))); done)) _)))
  generalize x0.u = W0 at *
  clear x0
  replace hkn : Hid (k = min 20 n0) := hkn
  go_cut [4] (fun v wx => v = .int .i64 k ∧ wx = W0)
  case first =>
    replace hkn := hkn.out
    rcases Nat.lt_or_ge n0 20 with h20 | h20
    · have e1 : k = n0 := by omega
      have e2 : (n0 : Int) < 20 := by omega
      have e3 : (n0 : Int) ≤ 20 := by omega
      have e4 : ¬ (20 : Int) < n0 := by omega
      go_wp2_with fail
      go_meet
      case rel => exact ⟨by rw [e1], rfl⟩
    · have e1 : k = 20 := by omega
      have e4 : ¬ (n0 : Int) < 20 := by omega
      by_cases h21 : n0 = 20
      · subst h21
        go_wp2_with fail
        go_meet
        case rel => exact ⟨by rw [e1]; rfl, rfl⟩
      · have e5 : (20 : Int) < n0 := by omega
        have e6 : ¬ (n0 : Int) ≤ 20 := by omega
        go_wp2_with fail
        go_meet
        case rel => exact ⟨by rw [e1]; rfl, rfl⟩
  case rest =>
    obtain ⟨rfl, rfl⟩ := hcut
    have hkl : k ≤ n0 := by have := hkn.out; omega
    go_wp2
    go_loopw [5, 6] (fun v i wr => ∃ j : Nat, j ≤ k ∧ i = .int .i64 j ∧ wr.ownsRow w.heap.size 49 5 v j (Lv.flat 5 Ins.enc ((lays ws).take j)) ∧ Mr w wr) (fun _ i _ => (k - intOf i).toNat)
    case atStart => exact ⟨0, by omega, rfl, World.ownsRow_nil _ _ _ _, (by repeat (first | (with_reducible exact Mr.refl _) | (with_reducible assumption) | (with_reducible apply Mr.drew) | (with_reducible apply Mr.alloc) | (with_reducible apply Mr.ext) | (with_reducible refine Mr.setCell ?_ (by first | (simp; done) | (simp; omega) | omega | (refine leOf0 ?_; (repeat (first | (with_reducible exact Mr.refl _) | (with_reducible apply Mr.drew) | (with_reducible apply Mr.alloc) | (with_reducible apply Mr.ext) | (with_reducible refine Mr.setCell ?_ (by first | (simp; done) | (simp; omega) | omega) _))); done) | (refine leOf ?_; (repeat (first | (with_reducible exact Mr.refl _) | (with_reducible apply Mr.drew) | (with_reducible apply Mr.alloc) | (with_reducible apply Mr.ext) | (with_reducible refine Mr.setCell ?_ (by first | (simp; done) | (simp; omega) | omega) _))); done)) _)))⟩
    case round =>
      obtain ⟨j, hj, rfl, hown, hmr⟩ := hrel
      by_cases hlt : j < k
      · have hlt' : (j : Int) < k := by omega
        have hjn : (j : Int) < n0 := by omega
        obtain ⟨b1, o1, rfl, hb1, hc1⟩ := (hL.mr hmr).num j (by omega)
        have hg : gt l j = gt ws j := (hgw j hlt).symm
        rw [hg] at hc1
        have hT := lays_more ws j (by omega)
        replace hT : Hid _ := hT
        obtain ⟨a5, c5, rfl, -, -⟩ := Lv.of_owns (by decide) hown
        have hlen5 : ((lays ws).take j).length = j := by rw [List.length_take, lays_len, hk]; omega
        rw [hlen5] at hown ⊢
        have hj9 : j ≤ 1000 := by omega
        have hok : Ins.ok ⟨1, j, 0, j + 1, gt ws j⟩ := ins_ok1 hj9 (hwb j)
        have hw : wrap64 ((j : Int) + 1) = (j : Int) + 1 := by unfold wrap64; omega
        generalize gt ws j = G at *
        clear hg hgw
        go_wp2_with (first | (at_builtin; refine append_ins rfl _ _ rfl w.heap.size _ j _ rfl (Lv.owns_mr hown ((Mr.refl _).alloc _)) rfl (ins_new _ rfl ⟨1, j, 0, j + 1, G⟩ hok _ rfl) (by omega) (by have := hmr.below.size; simp; omega) ?_; intro v' w1 hown' hgrow; have hm1 : Mr w w1 := (hmr.alloc _).grownBy hgrow (fun j e => (hown.lt j e).1); clear hgrow hown hmr))
        go_roundw
        case rel => exact ⟨j + 1, by omega, by go_num, by rw [hT.out]; exact hown', hm1⟩
        case measure => simp [intOf]; omega
      · obtain rfl : j = k := by omega
        rw [List.take_of_length_le (by rw [lays_len, hk]; omega)] at hown
        obtain ⟨a5, c5, rfl, -, -⟩ := Lv.of_owns (by decide) hown
        have hlen5 : (lays ws).length = j := by rw [lays_len, hk]
        rw [hlen5] at hown ⊢
        clear hlt
        go_wp2
        go_loopw [5, 7] (fun v i wr => ∃ q : Nat, q ≤ j ∧ i = .int .i64 q ∧ wr.ownsRow w.heap.size 49 5 v (j + q) (Lv.flat 5 Ins.enc (lays ws ++ (loads j).take q)) ∧ Mr w wr) (fun _ i _ => (j - intOf i).toNat)
        case atStart => exact ⟨0, by omega, rfl, by rw [List.take_zero, List.append_nil]; exact hown, (by repeat (first | (with_reducible exact Mr.refl _) | (with_reducible assumption) | (with_reducible apply Mr.drew) | (with_reducible apply Mr.alloc) | (with_reducible apply Mr.ext) | (with_reducible refine Mr.setCell ?_ (by first | (simp; done) | (simp; omega) | omega | (refine leOf0 ?_; (repeat (first | (with_reducible exact Mr.refl _) | (with_reducible apply Mr.drew) | (with_reducible apply Mr.alloc) | (with_reducible apply Mr.ext) | (with_reducible refine Mr.setCell ?_ (by first | (simp; done) | (simp; omega) | omega) _))); done) | (refine leOf ?_; (repeat (first | (with_reducible exact Mr.refl _) | (with_reducible apply Mr.drew) | (with_reducible apply Mr.alloc) | (with_reducible apply Mr.ext) | (with_reducible refine Mr.setCell ?_ (by first | (simp; done) | (simp; omega) | omega) _))); done)) _)))⟩
        case round =>
          clear hown hmr
          obtain ⟨q, hq, rfl, hown, hmr⟩ := hrel
          by_cases hlt : q < j
          · have hlt' : (q : Int) < j := by omega
            have hT := loads_more j q hlt
            replace hT : Hid _ := hT
            obtain ⟨a6, c6, rfl, -, -⟩ := Lv.of_owns (by decide) hown
            have hlen6 : (lays ws ++ (loads j).take q).length = j + q := by rw [List.length_append, List.length_take, lays_len, loads_len, hk]; omega
            rw [hlen6] at hown ⊢
            have hok : Ins.ok ⟨0, q, q, j + q + 1, 0⟩ := ins_ok2 (by omega) (by omega)
            have hw : wrap64 ((j + q : Nat) + 1) = (j : Int) + q + 1 := by unfold wrap64; omega
            have hw2 : wrap64 ((j : Int) + q + 1) = (j : Int) + q + 1 := by unfold wrap64; omega
            go_wp2_with (first | (at_builtin; refine append_ins rfl _ _ rfl w.heap.size _ (j + q) _ rfl (Lv.owns_mr hown ((Mr.refl _).alloc _)) rfl (ins_new _ rfl ⟨0, q, q, j + q + 1, 0⟩ hok _ rfl) (by omega) (by have := hmr.below.size; simp; omega) ?_; intro v' w1 hown' hgrow; have hm1 : Mr w w1 := (hmr.alloc _).grownBy hgrow (fun j e => (hown.lt j e).1); clear hgrow hown hmr))
            go_roundw
            case rel => exact ⟨q + 1, by omega, by go_num, by rw [hT.out, ← List.append_assoc, ← Nat.add_assoc]; exact hown', hm1⟩
            case measure => simp [intOf]; omega
          · obtain rfl : q = j := by omega
            rw [List.take_of_length_le (by rw [loads_len]; omega)] at hown
            obtain ⟨a6, c6, rfl, -, -⟩ := Lv.of_owns (by decide) hown
            have hlen6 : (lays ws ++ loads q).length = q + q := by rw [List.length_append, lays_len, loads_len, hk]
            rw [hlen6] at hown ⊢
            clear hlt
            have hok : Ins.ok ⟨6, 0, 0, q + q + 1, 7⟩ := ins_ok4 (by omega)
            have hprog : Hid (lays ws ++ loads q ++ [⟨6, 0, 0, (q : Int) + q + 1, 7⟩] = prog ws) := prog_form hk
            have hpok : Hid (∀ x ∈ prog ws, x.ok) := prog_ok (by omega) hwb
            have hplen : Hid ((prog ws).length = 2 * q + 1) := by rw [Hid, prog_len, hk]
            have hqb : -9223372036854775808 ≤ (q : Int) ∧ (q : Int) ≤ 9223372036854775807 := by omega
            have hnw : Hid (nw (q : Int) = q) := by unfold Hid nw; omega
            have hall := loaded_all hk hk20
            replace hall : Hid _ := hall
            have hcut : Hid ((cut (List.replicate q (0 : Int))).length = q) := by rw [Hid, cut_len, List.length_replicate]; omega
            have hw3 : wrap64 ((q : Int) + q + 1) = (q : Int) + q + 1 := by unfold wrap64; omega
            go_wp2_with (first | (at_builtin; refine append_ins rfl _ _ rfl w.heap.size _ (q + q) _ rfl (Lv.owns_mr hown ((Mr.refl _).alloc _)) rfl (ins_new _ rfl ⟨6, 0, 0, q + q + 1, 7⟩ hok _ rfl) (by omega) (by have := hmr.below.size; simp; omega) ?_; intro v' w1 hown' hgrow; have hm1 : Mr w w1 := (hmr.alloc _).grownBy hgrow (fun j e => (hown.lt j e).1); clear hgrow hown hmr; rw [hprog.out] at hown'; obtain ⟨a7, c7, rfl, -, hI7⟩ := Lv.of_owns (by decide) hown'; have hP : Inss w1 a7 c7 (prog ws) := ⟨hI7, hpok.out⟩; clear hown' hI7; rw [hplen.out]) | (go_at_call 18; refine (tstart_c _ (hP.mr (by repeat (first | (with_reducible exact Mr.refl _) | (with_reducible assumption) | (with_reducible apply Mr.drew) | (with_reducible apply Mr.alloc) | (with_reducible apply Mr.ext) | (with_reducible refine Mr.setCell ?_ (by first | (simp; done) | (simp; omega) | omega | (refine leOf0 ?_; (repeat (first | (with_reducible exact Mr.refl _) | (with_reducible apply Mr.drew) | (with_reducible apply Mr.alloc) | (with_reducible apply Mr.ext) | (with_reducible refine Mr.setCell ?_ (by first | (simp; done) | (simp; omega) | omega) _))); done) | (refine leOf ?_; (repeat (first | (with_reducible exact Mr.refl _) | (with_reducible apply Mr.drew) | (with_reducible apply Mr.alloc) | (with_reducible apply Mr.ext) | (with_reducible refine Mr.setCell ?_ (by first | (simp; done) | (simp; omega) | omega) _))); done)) _)))) hplen.out).mono ?_; rintro e w' ⟨ca, cc, rfl, y1, rfl, hT1⟩) | (go_at_call 24; refine (cnew_c _ hqb).mono ?_; rw [hnw.out]; rintro e w' ⟨a8, c8, rfl, y2, rfl, hN⟩) | (go_at_call 22; refine (tsteps_c (t := Tk.start (prog ws)) (m := List.replicate q 0) _ (hT1.mr (by repeat (first | (with_reducible exact Mr.refl _) | (with_reducible assumption) | (with_reducible apply Mr.drew) | (with_reducible apply Mr.alloc) | (with_reducible apply Mr.ext) | (with_reducible refine Mr.setCell ?_ (by first | (simp; done) | (simp; omega) | omega | (refine leOf0 ?_; (repeat (first | (with_reducible exact Mr.refl _) | (with_reducible apply Mr.drew) | (with_reducible apply Mr.alloc) | (with_reducible apply Mr.ext) | (with_reducible refine Mr.setCell ?_ (by first | (simp; done) | (simp; omega) | omega) _))); done) | (refine leOf ?_; (repeat (first | (with_reducible exact Mr.refl _) | (with_reducible apply Mr.drew) | (with_reducible apply Mr.alloc) | (with_reducible apply Mr.ext) | (with_reducible refine Mr.setCell ?_ (by first | (simp; done) | (simp; omega) | omega) _))); done)) _)))) (hN.mr (by repeat (first | (with_reducible exact Mr.refl _) | (with_reducible assumption) | (with_reducible apply Mr.drew) | (with_reducible apply Mr.alloc) | (with_reducible apply Mr.ext) | (with_reducible refine Mr.setCell ?_ (by first | (simp; done) | (simp; omega) | omega | (refine leOf0 ?_; (repeat (first | (with_reducible exact Mr.refl _) | (with_reducible apply Mr.drew) | (with_reducible apply Mr.alloc) | (with_reducible apply Mr.ext) | (with_reducible refine Mr.setCell ?_ (by first | (simp; done) | (simp; omega) | omega) _))); done) | (refine leOf ?_; (repeat (first | (with_reducible exact Mr.refl _) | (with_reducible apply Mr.drew) | (with_reducible apply Mr.alloc) | (with_reducible apply Mr.ext) | (with_reducible refine Mr.setCell ?_ (by first | (simp; done) | (simp; omega) | omega) _))); done)) _)))) (List.length_replicate ..) (by decide)).mono ?_; rw [hall.out, hcut.out]; rintro e w' ⟨ca1, cc1, sa1, sc1, rfl, y3, rfl, hM1, hU1⟩; have m1 : Mr w y3.u := hm1.trans (by repeat (first | (with_reducible exact Mr.refl _) | (with_reducible assumption) | (with_reducible apply Mr.drew) | (with_reducible apply Mr.alloc) | (with_reducible apply Mr.ext) | (with_reducible refine Mr.setCell ?_ (by first | (simp; done) | (simp; omega) | omega | (refine leOf0 ?_; (repeat (first | (with_reducible exact Mr.refl _) | (with_reducible apply Mr.drew) | (with_reducible apply Mr.alloc) | (with_reducible apply Mr.ext) | (with_reducible refine Mr.setCell ?_ (by first | (simp; done) | (simp; omega) | omega) _))); done) | (refine leOf ?_; (repeat (first | (with_reducible exact Mr.refl _) | (with_reducible apply Mr.drew) | (with_reducible apply Mr.alloc) | (with_reducible apply Mr.ext) | (with_reducible refine Mr.setCell ?_ (by first | (simp; done) | (simp; omega) | omega) _))); done)) _))); simp only at hM1 hU1; generalize eT : (⟨prog ws, (2 * q : Nat), held ws q, true, 7⟩ : T) = R1 at *; replace eT : Hid _ := eT; have hsz1 := sizeT (ca := ca1) (cc := cc1) hU1.2.len; have hV1 : Hid ((TV ca1 cc1 R1).size = 36) := TV_size hU1.2.len; have hVo1 := TV_one ca1 cc1 R1; generalize y3.u = W1 at *; clear y3 hT1 hN hP hm1) | (refine wpList_store_row rfl 37 _ _ rfl W1.heap.size _ rfl rfl 37 _ (Row.new W1 37 #[Value.slice none 0 0, Value.int IntKind.i64 0, Value.int IntKind.u64 0, Value.int IntKind.u64 0, Value.int IntKind.u64 0, Value.int IntKind.u64 0, Value.int IntKind.u64 0, Value.int IntKind.u64 0, Value.int IntKind.u64 0, Value.int IntKind.u64 0, Value.int IntKind.u64 0, Value.int IntKind.u64 0, Value.int IntKind.u64 0, Value.int IntKind.u64 0, Value.int IntKind.u64 0, Value.int IntKind.u64 0, Value.int IntKind.u64 0, Value.int IntKind.u64 0, Value.int IntKind.u64 0, Value.int IntKind.u64 0, Value.int IntKind.u64 0, Value.int IntKind.u64 0, Value.int IntKind.u64 0, Value.int IntKind.u64 0, Value.int IntKind.u64 0, Value.int IntKind.u64 0, Value.int IntKind.u64 0, Value.int IntKind.u64 0, Value.int IntKind.u64 0, Value.int IntKind.u64 0, Value.int IntKind.u64 0, Value.int IntKind.u64 0, Value.int IntKind.u64 0, Value.int IntKind.u64 0, Value.bool false, Value.int IntKind.i64 0]) hsz1 (z36_size2.trans hV1.out.symm) hVo1 ?_; have hB1 := Row.row (Row.new W1 37 #[Value.slice none 0 0, Value.int IntKind.i64 0, Value.int IntKind.u64 0, Value.int IntKind.u64 0, Value.int IntKind.u64 0, Value.int IntKind.u64 0, Value.int IntKind.u64 0, Value.int IntKind.u64 0, Value.int IntKind.u64 0, Value.int IntKind.u64 0, Value.int IntKind.u64 0, Value.int IntKind.u64 0, Value.int IntKind.u64 0, Value.int IntKind.u64 0, Value.int IntKind.u64 0, Value.int IntKind.u64 0, Value.int IntKind.u64 0, Value.int IntKind.u64 0, Value.int IntKind.u64 0, Value.int IntKind.u64 0, Value.int IntKind.u64 0, Value.int IntKind.u64 0, Value.int IntKind.u64 0, Value.int IntKind.u64 0, Value.int IntKind.u64 0, Value.int IntKind.u64 0, Value.int IntKind.u64 0, Value.int IntKind.u64 0, Value.int IntKind.u64 0, Value.int IntKind.u64 0, Value.int IntKind.u64 0, Value.int IntKind.u64 0, Value.int IntKind.u64 0, Value.int IntKind.u64 0, Value.bool false, Value.int IntKind.i64 0]) (TV ca1 cc1 R1); have gg1 := m1.below.size; have mx1 := mr_row (m1.alloc (.cells #[Value.slice none 0 0, Value.int IntKind.i64 0, Value.int IntKind.u64 0, Value.int IntKind.u64 0, Value.int IntKind.u64 0, Value.int IntKind.u64 0, Value.int IntKind.u64 0, Value.int IntKind.u64 0, Value.int IntKind.u64 0, Value.int IntKind.u64 0, Value.int IntKind.u64 0, Value.int IntKind.u64 0, Value.int IntKind.u64 0, Value.int IntKind.u64 0, Value.int IntKind.u64 0, Value.int IntKind.u64 0, Value.int IntKind.u64 0, Value.int IntKind.u64 0, Value.int IntKind.u64 0, Value.int IntKind.u64 0, Value.int IntKind.u64 0, Value.int IntKind.u64 0, Value.int IntKind.u64 0, Value.int IntKind.u64 0, Value.int IntKind.u64 0, Value.int IntKind.u64 0, Value.int IntKind.u64 0, Value.int IntKind.u64 0, Value.int IntKind.u64 0, Value.int IntKind.u64 0, Value.int IntKind.u64 0, Value.int IntKind.u64 0, Value.int IntKind.u64 0, Value.int IntKind.u64 0, Value.bool false, Value.int IntKind.i64 0] 37)) (g := W1.heap.size) (by omega) (TV ca1 cc1 R1); have mm1 := mr_row ((Mr.refl W1).alloc (.cells #[Value.slice none 0 0, Value.int IntKind.i64 0, Value.int IntKind.u64 0, Value.int IntKind.u64 0, Value.int IntKind.u64 0, Value.int IntKind.u64 0, Value.int IntKind.u64 0, Value.int IntKind.u64 0, Value.int IntKind.u64 0, Value.int IntKind.u64 0, Value.int IntKind.u64 0, Value.int IntKind.u64 0, Value.int IntKind.u64 0, Value.int IntKind.u64 0, Value.int IntKind.u64 0, Value.int IntKind.u64 0, Value.int IntKind.u64 0, Value.int IntKind.u64 0, Value.int IntKind.u64 0, Value.int IntKind.u64 0, Value.int IntKind.u64 0, Value.int IntKind.u64 0, Value.int IntKind.u64 0, Value.int IntKind.u64 0, Value.int IntKind.u64 0, Value.int IntKind.u64 0, Value.int IntKind.u64 0, Value.int IntKind.u64 0, Value.int IntKind.u64 0, Value.int IntKind.u64 0, Value.int IntKind.u64 0, Value.int IntKind.u64 0, Value.int IntKind.u64 0, Value.int IntKind.u64 0, Value.bool false, Value.int IntKind.i64 0] 37)) (g := W1.heap.size) (by omega) (TV ca1 cc1 R1); have hMa := hM1.mr mm1; have hTa := hU1.mr mm1; clear m1 gg1 hM1 hU1 mm1; generalize (W1.alloc (.cells #[Value.slice none 0 0, Value.int IntKind.i64 0, Value.int IntKind.u64 0, Value.int IntKind.u64 0, Value.int IntKind.u64 0, Value.int IntKind.u64 0, Value.int IntKind.u64 0, Value.int IntKind.u64 0, Value.int IntKind.u64 0, Value.int IntKind.u64 0, Value.int IntKind.u64 0, Value.int IntKind.u64 0, Value.int IntKind.u64 0, Value.int IntKind.u64 0, Value.int IntKind.u64 0, Value.int IntKind.u64 0, Value.int IntKind.u64 0, Value.int IntKind.u64 0, Value.int IntKind.u64 0, Value.int IntKind.u64 0, Value.int IntKind.u64 0, Value.int IntKind.u64 0, Value.int IntKind.u64 0, Value.int IntKind.u64 0, Value.int IntKind.u64 0, Value.int IntKind.u64 0, Value.int IntKind.u64 0, Value.int IntKind.u64 0, Value.int IntKind.u64 0, Value.int IntKind.u64 0, Value.int IntKind.u64 0, Value.int IntKind.u64 0, Value.int IntKind.u64 0, Value.int IntKind.u64 0, Value.bool false, Value.int IntKind.i64 0] 37)).setRow W1.heap.size (TV ca1 cc1 R1) = X1 at *; generalize W1.heap.size = U1 at *; have lb1 := hB1.lt))
            have hR : R1.R = held ws q := by rw [← eT.out]
            have hdn : R1.done = true := by rw [← eT.out]
            have han : R1.ans = 7 := by rw [← eT.out]
            have k34 := (hB1.cell 34).trans (TV_34 hTa.2.len)
            have k35 := (hB1.cell 35).trans (TV_35 hTa.2.len)
            rw [hdn] at k34
            rw [han] at k35
            have hq100 : (q : Int) ≤ 20 := by omega
            clear hall hcut hnw hplen hpok hprog hok hdn han eT
            go_loopw [11] (fun i wr => ∃ j : Nat, j ≤ q ∧ i = .int .i64 j ∧ ∃ y : Ext X1, wr = y.u) (fun i _ => (q - intOf i).toNat)
            case atStart => exact ⟨0, by omega, rfl, Mr.mk' (Mr.refl _)⟩
            case round =>
              obtain ⟨j, hj, rfl, y, rfl⟩ := hrel
              by_cases hlt : j < q
              · have hlt' : (j : Int) < q := by omega
                have hjn : (j : Int) < n0 := by omega
                have r1 := (hB1.cell (2 + j)).trans (TV_R hTa.2.len (by omega))
                have hh : gt R1.R j = gt ws j := by rw [hR, gt_held (by omega), if_pos hlt]
                rw [hh] at r1
                obtain ⟨b1, o1, rfl, hb1, hc1⟩ := (hL.mr (mx1.trans y.h)).num j (by omega)
                rw [← hgw j hlt] at hc1
                obtain ⟨b2, o2, rfl, hb2, hc2⟩ := (hMa.mr y.h).num j (by omega)
                have hjq : ¬ (q : Int) ≤ j := by omega
                have hjq2 : decide (q ≤ j) = false := decide_eq_false (by omega)
                have hjq3 : decide ((q : Int) ≤ j) = false := decide_eq_false (by omega)
                have hj32 : (j : Int) < 32 := by omega
                generalize gt ws j = G at *
                clear hh hR hgw
                go_wp2
                refine wp_region_ext (by kernel_rfl) (by kernel_rfl) ?_; (repeat (go_big_quiet_step (fail))); refine wpQuiet_nil ?_; rintro w9 ⟨x9, rfl⟩; have hz := y.h.trans x9.h; generalize x9.u = W9 at *; clear x9; go_wp2
                go_roundw
                case rel => exact ⟨j + 1, by omega, by go_num, ⟨W9, hz⟩, rfl⟩
                case measure => simp [intOf]; omega
              · obtain rfl : j = q := by omega
                have hw4 : wrap64 (2 * (j : Int)) = 2 * (j : Int) := by unfold wrap64; omega
                clear hR hgw hlt
                go_wp2
                go_ret; exact ⟨rfl, Mr.grown (by repeat (first | (with_reducible exact Mr.refl _) | (with_reducible assumption) | (with_reducible apply Mr.drew) | (with_reducible apply Mr.alloc) | (with_reducible apply Mr.ext) | (with_reducible refine Mr.setCell ?_ (by first | (simp; done) | (simp; omega) | omega | (refine leOf0 ?_; (repeat (first | (with_reducible exact Mr.refl _) | (with_reducible apply Mr.drew) | (with_reducible apply Mr.alloc) | (with_reducible apply Mr.ext) | (with_reducible refine Mr.setCell ?_ (by first | (simp; done) | (simp; omega) | omega) _))); done) | (refine leOf ?_; (repeat (first | (with_reducible exact Mr.refl _) | (with_reducible apply Mr.drew) | (with_reducible apply Mr.alloc) | (with_reducible apply Mr.ext) | (with_reducible refine Mr.setCell ?_ (by first | (simp; done) | (simp; omega) | omega) _))); done)) _)))⟩

set_option maxRecDepth 100000 in
theorem lifted (os : Os) (started : os.Started) (H : Type) (enc : TypeId × Value → H) :
    ReturnsInHanded {} Try.checked os 7 .any (Rows.taskLoadsSpec.pre6 enc Try.prog Try.f7 Rows.taskLoadsRow.domain false) (Rows.taskLoadsSpec.post enc Try.prog Try.f7 false true false false) := by
  refine returnsInHanded_of_change (C := Try.checked) own started (by kernel_rfl) Try.func7
    (ChangeSpec.witness6 (enc := enc) (C := Try.checked) false ⟨#[], #[.slice none 0 0], []⟩ 8 (by kernel_rfl) (by kernel_rfl) (by kernel_rfl) (by kernel_rfl)) ?_
  intro W base args ds gs before hval0 hW hcnd _
  have hval : ∀ (j : Nat) t v, Try.f7.params[j]? = some t → args[j]? = some v → Value.okWide Try.prog W .any base t v := hval0
  have hW' := hW
  obtain ⟨p, q, hA0, hV, rfl, hfz, hnd⟩ := hW
  have hA : DataW.TrodAll enc Try.prog W 0 (fun _ => true) true Try.f7.params.toList args.toList ds p := hA0
  rw [Try.params7] at hA hval
  obtain ⟨v0, vs0, d0, ds0, p_0, q_0, hargs, rfl, rfl, h0, r0⟩ := trodAll_cons hA
  obtain ⟨rfl, rfl, rfl⟩ := trodAll_nil r0
  obtain rfl : args = #[v0] := by cases args; simp_all
  obtain ⟨rfl, rfl⟩ := trodVars_none hV
  obtain ⟨s0, n0, c0, rfl⟩ := okWide_slice Try.underlying23 (hval 0 23 v0 rfl rfl)
  have k0 := h0
  have lt0 : ∀ x ∈ p_0, x.block < W.heap.size := by obtain ⟨m, hm⟩ := k0; exact DataW.trod_lt m _ _ _ hm
  obtain ⟨z0, w0⟩ : ∃ zs, Wl.IsRow .u64 W s0 n0 c0 zs := by
    obtain ⟨fuel, hf⟩ := h0
    rcases open_ints Try.underlying23 Try.underlying34 (by kernel_rfl) hf with ⟨hcs, _⟩ | ⟨x, l, c, zs, hcs, _, hl, hm, hz, _, hcell, hwz⟩
    · simp [Value.cells] at hcs
      obtain ⟨rfl, rfl, rfl⟩ := hcs
      exact ⟨[], .inl ⟨rfl, rfl, rfl, rfl⟩⟩
    · simp [Value.cells] at hcs
      obtain ⟨rfl, rfl, rfl⟩ := hcs
      exact ⟨zs, .inr ⟨_, rfl, hl, hm, by simpa using hz, hcell, hwz⟩⟩
  clear hA0 hval0
  refine (walk s0 n0 c0 z0 W w0).mono fun e W' ⟨he, bel⟩ => ?_
  subst he
  exact ⟨_, rfl, _, _, _, [], _, [], hW', trodAll_mk1 (shut_bool Try.underlying4 _), (trodAll_cons_mk (Below.trod laidOut (by kernel_rfl) (of_decide_eq_true (by kernel_rfl)) k0 bel lt0) trodAll_mk0), rfl, bel.frame _, fun h => by cases h⟩

theorem over : Rows.taskLoadsRow.holds Try.pinned (OpenSpec.ofChange Rows.taskLoadsSpec) :=
  OpenClaim.holds_of_wide 7 Try.f7 rfl rfl rfl rfl rfl rfl rfl ⟨rfl, rfl, rfl, rfl, rfl⟩ rfl rfl rfl rfl rfl (by kernel_rfl) Try.func7 (by kernel_rfl)
    (of_decide_eq_true (by kernel_rfl)) (by unfold Func.isWrapper; first | (rw [if_pos (by decide +kernel)]; kernel_rfl) | (rw [if_neg (by decide +kernel)]; exact ⟨rfl, rfl⟩))
    (fun os started H enc _ => lifted os started H enc)

theorem proved : Rows.TaskLoadsSaid :=
  over
#print axioms proved
end Go.Proofs.Yteomkfgkhmdehaa.taskLoads
