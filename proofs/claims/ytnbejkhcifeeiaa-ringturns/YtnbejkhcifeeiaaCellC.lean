/- The contracts of package cell: memory of one's own, and what is done to it. -/
import Derived.Test.YtnbejkhcifeeiaaCellM
import Derived.Deep.OwnRows
import Derived.Laws.CopyOwn
import Derived.Laws.IdiomCopy
namespace Go.Proofs.Ytnbejkhcifeeiaa
open Go.ChangeShapes Go.WideShapes Go.ChangeAt Go.RowKit
set_option linter.unusedVariables false
attribute [local go_sem] Ext.cell Ext.froz Ext.lt Ext.lt1 Ext.lt2 Ext.lt3 Ext.all Ext.set_u drew_heap setCell_size Ext.set_size
namespace Ce
open Wl
/-- Words in memory of one's own: a block of them. -/
abbrev Ob (W : World) (g n : Nat) (F : Nat → Int) : Prop := W.rowIs g 24 n (fun j => .int .u64 (F j))
theorem Ob.mr {W W' : World} {g n : Nat} {F : Nat → Int} (h : Ob W g n F) (m : Mr W W') : Ob W' g n F := h.of_block (m.below.block g h.lt)
theorem Ob.put {W : World} {g n : Nat} {F : Nat → Int} (h : Ob W g n F) (i : Nat) (v : Int) : Ob (W.setCell ⟨g, i, none⟩ (.int .u64 v)) g n (fun j => if j = i then v else F j) :=
  (h.set i _).congr (fun j _ => by by_cases e : j = i <;> simp [e])
theorem Ob.other {W : World} {g g' n i : Nat} {v : Value} {F : Nat → Int} (h : Ob W g n F) (hne : g ≠ g') : Ob (W.setCell ⟨g', i, none⟩ v) g n F := h.setOther hne _
theorem Ob.list {W : World} {g n : Nat} {F : Nat → Int} {l : List Int} (h : Ob W g n F) (hn : n ≤ maxLen) (en : l.length = n) (hb : Wb l) (e : ∀ j, j < n → F j = gt l j) : Wl.Is W (some ⟨g, 0, none⟩) n l :=
  ⟨by omega, hn, fun e => (by cases e), fun j hj => ⟨g, 0, rfl, h.lt, fun i hi => by rw [Nat.zero_add, ← e i (by omega)]; exact h.cell (by omega)⟩, hb⟩
theorem make_mem (k : Nat) (hk : k ≤ 256) (z : Int) (hz : z = k) (w : World) : (Instr.makeSlice 58 (.int .i64 z) (.int .i64 z)).run Try.prog w = .ok (.slice (some ⟨w.heap.size, 0, none⟩) k k) (w.alloc (.cells (madeCells #[.int .u64 0] k) 24)) := by
  subst hz
  exact run_make_row' (P := Try.prog) 58 24 (.int .u64 0) 8 Try.underlying58 infoU rfl .i64 .i64 k (by omega) (by omega) w
set_option maxHeartbeats 1000000 in
theorem cblank_c {z : Int} (w : World) (hzb : -9223372036854775808 ≤ z ∧ z ≤ 9223372036854775807) :
    Calls Try.prog 32 #[.int .i64 z] w fun e w' => e = .returned (.slice (some ⟨w.heap.size, 0, none⟩) (nw z) (nw z)) ∧ w' = w.alloc (.cells (madeCells #[.int .u64 0] (nw z)) 24) := by
  rcases Int.lt_or_le z 0 with hn | hp
  · have e : nw z = 0 := by unfold nw; omega
    have hmk := make_mem 0 (by decide) 0 rfl
    have hn' : z ≤ 0 := by omega
    rw [e]
    go_enter Try.func32, Try.ntmps32
    go_wp2
    go_ret
    exact ⟨rfl, rfl⟩
  · rcases Int.lt_trichotomy z 256 with hlt | rfl | hgt
    · obtain ⟨k, rfl⟩ := Int.eq_ofNat_of_zero_le hp
      have e : nw k = k := by unfold nw; omega
      have hmk := make_mem k (by omega) k rfl
      have h0 : ¬ (k : Int) < 0 := by omega
      have h1 : ¬ (256 : Int) < k := by omega
      have h2 : (k : Int) ≤ 256 := by omega
      rw [e]
      go_enter Try.func32, Try.ntmps32
      go_wp2
      go_ret
      exact ⟨rfl, rfl⟩
    · have e : nw 256 = 256 := by decide
      have hmk := make_mem 256 (by decide) 256 rfl
      rw [e]
      go_enter Try.func32, Try.ntmps32
      go_wp2
      go_ret
      exact ⟨rfl, rfl⟩
    · have e : nw z = 256 := by unfold nw; omega
      have hmk := make_mem 256 (by decide) 256 rfl
      have h1 : ¬ z ≤ 256 := by omega
      have h2 : ¬ z < 256 := by omega
      have h3 : ¬ z < 0 := by omega
      have h4 : ¬ z ≤ 0 := by omega
      rw [e]
      go_enter Try.func32, Try.ntmps32
      go_wp2
      go_ret
      exact ⟨rfl, rfl⟩
set_option maxHeartbeats 1000000 in
theorem cnew_c {z : Int} (w : World) (hzb : -9223372036854775808 ≤ z ∧ z ≤ 9223372036854775807) :
    Calls Try.prog 22 #[.int .i64 z] w fun e w' => ∃ a c, e = .returned (.slice a (nw z) c) ∧ ∃ x : Ext w, w' = x.u ∧ Wl.Is x.u a c (List.replicate (nw z) 0) := by
  have hnb := hzb
  obtain ⟨N, eN⟩ : ∃ N, nw z = N := ⟨_, rfl⟩
  have hN : N ≤ 256 := by unfold nw at eN; omega
  rw [eN]
  have hO : Ob (w.alloc (.cells (madeCells #[.int .u64 0] N) 24)) w.heap.size N (fun _ => 0) := World.rowIs_made w _ _ _
  have hI := hO.list (l := List.replicate N 0) (by unfold maxLen; omega) (List.length_replicate ..) (Wb.zeros N) (fun j hj => by unfold gt; rw [List.getD_eq_getElem?_getD, List.getElem?_replicate, if_pos hj]; rfl)
  go_enter Try.func22, Try.ntmps22
  go_wp2_with (go_at_call 32; refine (cblank_c _ hnb).mono ?_; rw [eN]; rintro e w' ⟨rfl, rfl⟩)
  go_ret
  exact ⟨_, _, rfl, ⟨_, (Mr.refl w).alloc _⟩, rfl, hI⟩
theorem cut_at {m : List Int} {j : Nat} (h : j < (cut m).length) : ((cut m).map (Value.int .u64))[j]? = some (.int .u64 (gt m j)) := by
  have h2 := cut_len m
  rw [List.getElem?_map, List.getElem?_eq_getElem h]
  have := gt_cut m j
  rw [if_pos (by omega)] at this
  rw [← this]
  unfold gt
  rw [List.getD_eq_getElem?_getD, List.getElem?_eq_getElem h]
  rfl
/-- A list copied into a block of zeros. -/
theorem own_copy {w : World} {a : Option Addr} {c n N : Nat} {l : List Int} (h : Wl.Is w a c l) (en : l.length = n) (eN : (cut l).length = N) :
    ∃ W2, (Builtin.copy_ #[58, 22] 3 #[.slice (some ⟨w.heap.size, 0, none⟩) N N, .slice a n c]).run Try.prog (w.alloc (.cells (madeCells #[.int .u64 0] N) 24)) = .ok (goInt N) W2 ∧ Ob W2 w.heap.size N (gt l) ∧ Mr w W2 := by
  have hl := cut_len l
  have hO : Ob (w.alloc (.cells (madeCells #[.int .u64 0] N) 24)) w.heap.size N (fun _ => 0) := World.rowIs_made w _ _ _
  have hs : (Try.prog.info? 24).map (·.size) = some 1 := by kernel_rfl
  by_cases g : N = 0
  · subst g
    refine ⟨_, run_copy_none _ _ _ _ 24 _ _ _ _ _ _ Try.underlying58 hs (by simp), hO.congr (fun j hj => by omega), (Mr.refl w).alloc _⟩
  · obtain ⟨b, o, rfl, hb, -⟩ := h.at' 0 (by omega)
    obtain ⟨cur, hc, hn, -⟩ := hO
    have hln : ((cut l).map (Value.int .u64)).length = N := by rw [List.length_map, eN]
    have hrun := run_copy_row (P := Try.prog) (w.alloc (.cells (madeCells #[.int .u64 0] N) 24)) 58 22 3 24 w.heap.size 0 N N ⟨b, o, none⟩ n c cur 24 ((cut l).map (Value.int .u64)) Try.underlying58 hs hc (by rw [hln]; show N = min n N; omega) ?_ (by rw [hln]; omega) (by intro v hv; rw [List.mem_map] at hv; obtain ⟨z, -, rfl⟩ := hv; rfl)
    · have e : cur.toList.take 0 ++ (cut l).map (Value.int .u64) ++ cur.toList.drop (0 + ((cut l).map (Value.int .u64)).length) = (cut l).map (Value.int .u64) := by
        rw [List.take_zero, List.nil_append, List.drop_of_length_le (by rw [hln, Array.length_toList]; omega), List.append_nil]
      rw [e, hln] at hrun
      refine ⟨_, hrun, ⟨_, setRow_heap _ _ _ _ _ _ hc, by simpa using hln, fun j hj => ?_⟩, ⟨below_setRow ((Mr.refl w).alloc _).below (Nat.le_refl _) _⟩⟩
      rw [List.getElem?_toArray]
      exact cut_at (by omega)
    · intro j v hv
      exact Wl.Is.cells (h.take 256) ((Mr.refl w).alloc _) j v hv
set_option maxHeartbeats 1000000 in
/-- The words that count, in memory of one's own. -/
theorem csame_c {a : Option Addr} {c n N : Nat} {l : List Int} (w : World) (h : Wl.Is w a c l) (en : l.length = n) (eN : (cut l).length = N) :
    Calls Try.prog 44 #[.slice a n c] w fun e w' => ∃ g, e = .returned (.slice (some ⟨g, 0, none⟩) N N) ∧ w.heap.size ≤ g ∧ Ob w' g N (gt l) ∧ Mr w w' := by
  have hl := cut_len l
  have hmax : l.length ≤ maxLen := Nat.le_trans h.le h.max
  unfold maxLen at hmax
  have hnb : -9223372036854775808 ≤ (n : Int) ∧ (n : Int) ≤ 9223372036854775807 := by omega
  have eZ : nw (n : Int) = N := by unfold nw; omega
  obtain ⟨W2, hcp, hO, hm⟩ := own_copy h en eN
  have eN := eZ
  clear h
  go_enter Try.func44, Try.ntmps44
  go_wp2_with (go_at_call 32; refine (cblank_c _ hnb).mono ?_; rw [eN]; rintro e w' ⟨rfl, rfl⟩)
  go_ret
  exact ⟨_, rfl, Nat.le_refl _, hO, hm⟩
theorem doM_out' {m : List Int} {x : Acc} (h : ¬ (0 ≤ x.i ∧ x.i < ((cut m).length : Nat))) : doM m x = cut m ∧ doW m x = 0 := by
  have : inb m x = false := by
    unfold inb
    rw [Bool.eq_false_iff]; intro g; simp only [Bool.and_eq_true, decide_eq_true_eq] at g; exact h g
  unfold doM doW
  rw [this]
  exact ⟨rfl, rfl⟩
theorem inb_of' {m : List Int} {k p q : Int} {j : Nat} (h : j < (cut m).length) : inb m ⟨k, j, p, q⟩ = true := by
  unfold inb
  simp only [Bool.and_eq_true, decide_eq_true_eq]
  omega
theorem gt_snoc (l : List Int) (x : Int) (j : Nat) : gt (l ++ [x]) j = if j < l.length then gt l j else if j = l.length then x else 0 := by
  unfold gt
  rw [List.getD_eq_getElem?_getD, List.getD_eq_getElem?_getD]
  by_cases g : j < l.length
  · rw [if_pos g, List.getElem?_append_left g]
  · rw [if_neg g, List.getElem?_append_right (by omega)]
    by_cases e : j = l.length
    · subst e; rw [if_pos rfl, Nat.sub_self]; rfl
    · rw [if_neg e, List.getElem?_eq_none (by simp; omega)]; rfl
theorem gt_cut' {m : List Int} {N j : Nat} (e : (cut m).length = N) (h : j < N) : gt (cut m) j = gt m j := by
  have := cut_len m
  rw [gt_cut, if_pos (by omega)]
/-- Nothing but block g has turned. -/
def Kept (g : Nat) (w w' : World) : Prop := (∀ V : World, Mr V w → V.heap.size ≤ g → Mr V w') ∧ ∀ t n F, t ≠ g → Ob w t n F → Ob w' t n F
theorem Kept.refl (g : Nat) (w : World) : Kept g w w := ⟨fun _ h _ => h, fun _ _ _ _ h => h⟩
theorem Kept.drew {g : Nat} {w w' : World} (h : Kept g w w') : Kept g w w'.drew := ⟨fun V m l => (h.1 V m l).drew, fun t n F e o => World.rowIs.drew (h.2 t n F e o)⟩
theorem Kept.put {g : Nat} {w w' : World} (h : Kept g w w') (i : Nat) (v : Value) : Kept g w (w'.setCell ⟨g, i, none⟩ v) := ⟨fun V m l => (h.1 V m l).setCell l v, fun t n F e o => Ob.other (h.2 t n F e o) e⟩
set_option maxRecDepth 100000 in
set_option maxHeartbeats 4000000 in
/-- An access to a word of memory of one's own. -/
theorem cell_do_c {N g : Nat} {F : Nat → Int} {l : List Int} {k i p q : Int} (w : World) (hO : Ob w g N F) (eN : (cut l).length = N) (hF : ∀ j, j < N → F j = gt l j) (hb : Wb l) (hx : Acc.ok ⟨k, i, p, q⟩) :
    Calls Try.prog 45 #[.slice (some ⟨g, 0, none⟩) N N, .int .i64 k, .int .i64 i, .int .u64 p, .int .u64 q] w fun e w' => e = .returned (.int .u64 (doW l ⟨k, i, p, q⟩)) ∧ (∃ G, Ob w' g N G ∧ ∀ j, j < N → G j = gt (doM l ⟨k, i, p, q⟩) j) ∧ Kept g w w' := by
  obtain ⟨-, -, hp6, hq6⟩ := hx
  simp only at hp6 hq6
  by_cases hin : 0 ≤ i ∧ i < N
  · obtain ⟨j, rfl⟩ := Int.eq_ofNat_of_zero_le hin.1
    have hj : j < N := by omega
    have hi1 : (j : Int) < N := hin.2
    have hi0 : ¬ (j : Int) < 0 := by omega
    have hin' := inb_of' (m := l) (k := k) (p := p) (q := q) (j := j) (by omega)
    have hcl := hO.cell hj
    have hfz := hO.frozen j
    have hgl := hO.lt
    rw [hF j hj] at hcl
    obtain ⟨G, eG⟩ : ∃ G, gt l j = G := ⟨_, rfl⟩
    rw [eG] at hcl
    have eM : Hid (doM l ⟨k, j, p, q⟩ = if k = 1 then (cut l).set j p else if k = 2 then (if G = p then (cut l).set j q else cut l) else if k = 3 then (cut l).set j (IntKind.u64.wrap (G + p)) else cut l) := by
      unfold doM; rw [hin', if_pos rfl, Int.toNat_natCast, eG]; rfl
    have eW : Hid (doW l ⟨k, j, p, q⟩ = if k = 0 then G else if k = 2 then (if G = p then 1 else 0) else if k = 3 then IntKind.u64.wrap (G + p) else 0) := by
      unfold doW; rw [hin', if_pos rfl, Int.toNat_natCast, eG]; rfl
    rw [eM.out, eW.out]
    have hsame : ∀ j, j < N → F j = gt (cut l) j := fun j hj => by rw [gt_cut' eN hj]; exact hF j hj
    have hset : ∀ v, ∃ G, Ob (w.setCell ⟨g, j, none⟩ (.int .u64 v)) g N G ∧ ∀ t, t < N → G t = gt ((cut l).set j v) t := fun v => ⟨_, hO.put j v, fun t ht => by
      rw [gt_set, eN]
      by_cases e : t = j
      · subst e; rw [if_pos rfl, if_pos ⟨rfl, ht⟩]
      · rw [if_neg e, if_neg (by omega)]; exact hsame t ht⟩
    have hset : Hid _ := hset
    have hsame : Hid _ := hsame
    clear hin hin' eM eW eG hF hb
    by_cases k0 : k = 0
    · subst k0
      go_enter Try.func45, Try.ntmps45
      go_wp2
      go_ret
      exact ⟨rfl, ⟨F, hO, hsame.out⟩, Kept.refl _ _⟩
    · by_cases k1 : k = 1
      · subst k1
        go_enter Try.func45, Try.ntmps45
        go_wp2
        go_ret
        exact ⟨rfl, hset.out p, (Kept.refl _ _).put _ _⟩
      · by_cases k2 : k = 2
        · subst k2
          by_cases hG : G = p
          · subst hG
            go_enter Try.func45, Try.ntmps45
            go_wp2
            go_ret
            exact ⟨rfl, hset.out q, (Kept.refl _ _).put _ _⟩
          · have hG' : (G == p) = false := by simpa using hG
            rw [if_neg hG, if_neg hG]
            go_enter Try.func45, Try.ntmps45
            go_wp2
            go_ret
            exact ⟨rfl, ⟨F, hO, hsame.out⟩, Kept.refl _ _⟩
        · by_cases k3 : k = 3
          · subst k3
            go_enter Try.func45, Try.ntmps45
            go_wp2
            go_ret
            exact ⟨rfl, hset.out _, (Kept.refl _ _).put _ _⟩
          · have e0 : (k == 0) = false := by simpa using k0
            have e1 : (k == 1) = false := by simpa using k1
            have e2 : (k == 2) = false := by simpa using k2
            have e3 : (k == 3) = false := by simpa using k3
            rw [if_neg k1, if_neg k2, if_neg k3, if_neg k0, if_neg k2, if_neg k3]
            clear k0 k1 k2 k3
            go_enter Try.func45, Try.ntmps45
            go_wp2
            go_ret
            exact ⟨rfl, ⟨F, hO, hsame.out⟩, Kept.refl _ _⟩
  · have hd := doM_out' (m := l) (x := ⟨k, i, p, q⟩) (by rw [eN]; exact hin)
    rw [hd.1, hd.2]
    have hsame : ∀ j, j < N → F j = gt (cut l) j := fun j hj => by rw [gt_cut' eN hj]; exact hF j hj
    have hsame : Hid _ := hsame
    clear hd hF hb
    by_cases hneg : i < 0
    · go_enter Try.func45, Try.ntmps45
      go_wp2
      go_ret
      exact ⟨rfl, ⟨F, hO, hsame.out⟩, Kept.refl _ _⟩
    · have hge : (N : Int) ≤ i := by omega
      go_enter Try.func45, Try.ntmps45
      go_wp2
      go_ret
      exact ⟨rfl, ⟨F, hO, hsame.out⟩, Kept.refl _ _⟩
set_option maxHeartbeats 1000000 in
theorem cdo_n {a : Option Addr} {c n : Nat} {l : List Int} {k i p q : Int} (w : World) (h : Wl.Is w a c l) (en : l.length = n) (hx : Acc.ok ⟨k, i, p, q⟩) :
    Calls Try.prog 38 #[.slice a n c, .agg #[.int .i64 k, .int .i64 i, .int .u64 p, .int .u64 q]] w fun e w' => ∃ a' c', e = .returned (.tuple #[.slice a' (cut l).length c', .int .u64 (doW l ⟨k, i, p, q⟩)]) ∧ (∀ b o, a' = some ⟨b, o, none⟩ → w.heap.size ≤ b) ∧ ∃ y : Ext w, w' = y.u ∧ Wl.Is y.u a' c' (doM l ⟨k, i, p, q⟩) := by
  have hb : Wb l := h.bd
  have hl := cut_len l
  obtain ⟨N, eN⟩ : ∃ N, (cut l).length = N := ⟨_, rfl⟩
  have hN : N ≤ 256 := by omega
  have hML : (doM l ⟨k, i, p, q⟩).length = N := by rw [doM_len, eN]
  have hMb := Wb.doM hb hx
  rw [eN]
  clear hl
  go_enter Try.func38, Try.ntmps38
  go_wp2_with (first | (go_at_call 44; refine (csame_c _ (h.mr (by repeat (first | (with_reducible exact Mr.refl _) | (with_reducible assumption) | (with_reducible apply Mr.drew) | (with_reducible apply Mr.alloc) | (with_reducible apply Mr.ext) | (with_reducible refine Mr.setCell ?_ (by first | (simp; done) | (simp; omega) | omega | (refine leOf0 ?_; (repeat (first | (with_reducible exact Mr.refl _) | (with_reducible apply Mr.drew) | (with_reducible apply Mr.alloc) | (with_reducible apply Mr.ext) | (with_reducible refine Mr.setCell ?_ (by first | (simp; done) | (simp; omega) | omega) _))); done) | (refine leOf ?_; (repeat (first | (with_reducible exact Mr.refl _) | (with_reducible apply Mr.drew) | (with_reducible apply Mr.alloc) | (with_reducible apply Mr.ext) | (with_reducible refine Mr.setCell ?_ (by first | (simp; done) | (simp; omega) | omega) _))); done)) _)))) en eN).mono ?_; rintro e w' ⟨g, rfl, hg, hO, hm⟩; obtain ⟨x, rfl⟩ := Mr.mk' hm; clear hm) | (go_at_call 45; refine (cell_do_c _ hO eN (fun _ _ => rfl) hb hx).mono ?_; rintro e w2 ⟨rfl, ⟨G, hO2, hG⟩, hK⟩))
  go_ret2
  exact ⟨_, _, rfl, (fun b o e => by simp only [Option.some.injEq, Addr.mk.injEq] at e; obtain ⟨rfl, -, -⟩ := e; simp at hg; omega), ⟨_, hK.1 _ (by repeat (first | (with_reducible exact Mr.refl _) | (with_reducible assumption) | (with_reducible apply Mr.drew) | (with_reducible apply Mr.alloc) | (with_reducible apply Mr.ext) | (with_reducible refine Mr.setCell ?_ (by first | (simp; done) | (simp; omega) | omega | (refine leOf0 ?_; (repeat (first | (with_reducible exact Mr.refl _) | (with_reducible apply Mr.drew) | (with_reducible apply Mr.alloc) | (with_reducible apply Mr.ext) | (with_reducible refine Mr.setCell ?_ (by first | (simp; done) | (simp; omega) | omega) _))); done) | (refine leOf ?_; (repeat (first | (with_reducible exact Mr.refl _) | (with_reducible apply Mr.drew) | (with_reducible apply Mr.alloc) | (with_reducible apply Mr.ext) | (with_reducible refine Mr.setCell ?_ (by first | (simp; done) | (simp; omega) | omega) _))); done)) _))) (by simp at hg; omega)⟩, rfl, hO2.list (by unfold maxLen; omega) hML hMb hG⟩
theorem cdo_c {a : Option Addr} {c n : Nat} {l : List Int} {k i p q : Int} (w : World) (h : Wl.Is w a c l) (en : l.length = n) (hx : Acc.ok ⟨k, i, p, q⟩) :
    Calls Try.prog 38 #[.slice a n c, .agg #[.int .i64 k, .int .i64 i, .int .u64 p, .int .u64 q]] w fun e w' => ∃ a' c', e = .returned (.tuple #[.slice a' (cut l).length c', .int .u64 (doW l ⟨k, i, p, q⟩)]) ∧ ∃ y : Ext w, w' = y.u ∧ Wl.Is y.u a' c' (doM l ⟨k, i, p, q⟩) :=
  (cdo_n w h en hx).mono fun _ _ ⟨a', c', e, _, r⟩ => ⟨a', c', e, r⟩
set_option maxRecDepth 100000 in
set_option maxHeartbeats 4000000 in
theorem crun_n {a b : Option Addr} {c d n m : Nat} {l : List Int} {q : List Acc} (w : World) (h : Wl.Is w a c l) (en : l.length = n) (g : Accs w b d q) (em : q.length = m) (hm6 : m ≤ 100000) :
    Calls Try.prog 40 #[.slice a n c, .slice b m d] w fun e w' => ∃ a1 c1 a2 c2, e = .returned (.tuple #[.slice a1 (cut l).length c1, .slice a2 m c2]) ∧ (∀ b o, a1 = some ⟨b, o, none⟩ → w.heap.size ≤ b) ∧ ∃ x : Ext w, w' = x.u ∧ Wl.Is x.u a1 c1 (runM l q) ∧ Wl.Is x.u a2 c2 (runW l q) := by
  have hb : Wb l := h.bd
  obtain ⟨N, eN⟩ : ∃ N, (cut l).length = N := ⟨_, rfl⟩
  have hmk := run_make_row' (P := Try.prog) 22 24 (.int .u64 0) 8 Try.underlying22 infoU rfl .i64 .i64 m (by omega) (by omega)
  rw [eN]
  go_enter Try.func40, Try.ntmps40
  go_wp2
  go_cut [6, 7] (fun v u wx => ∃ g t, v = .slice (some ⟨g, 0, none⟩) N N ∧ u = .slice (some ⟨t, 0, none⟩) m m ∧ g ≠ t ∧ w.heap.size ≤ g ∧ w.heap.size ≤ t ∧ Ob wx g N (gt l) ∧ Ob wx t m (fun _ => 0) ∧ Mr w wx)
  case first =>
    go_region_held (fun w' => True) (trivial) (first | (go_at_call 44; refine (csame_c _ (h.mr (by repeat (first | (with_reducible exact Mr.refl _) | (with_reducible assumption) | (with_reducible apply Mr.drew) | (with_reducible apply Mr.alloc) | (with_reducible apply Mr.ext) | (with_reducible refine Mr.setCell ?_ (by first | (simp; done) | (simp; omega) | omega | (refine leOf0 ?_; (repeat (first | (with_reducible exact Mr.refl _) | (with_reducible apply Mr.drew) | (with_reducible apply Mr.alloc) | (with_reducible apply Mr.ext) | (with_reducible refine Mr.setCell ?_ (by first | (simp; done) | (simp; omega) | omega) _))); done) | (refine leOf ?_; (repeat (first | (with_reducible exact Mr.refl _) | (with_reducible apply Mr.drew) | (with_reducible apply Mr.alloc) | (with_reducible apply Mr.ext) | (with_reducible refine Mr.setCell ?_ (by first | (simp; done) | (simp; omega) | omega) _))); done)) _)))) en eN).mono ?_; rintro e w' ⟨g, rfl, hg, hO, hm⟩))
    · have hl := hO.lt
      simp [drew_heap] at hg
      go_wp2_with fail
      go_meet
      case rel => exact ⟨g, w'.heap.size, rfl, rfl, by omega, hg, by have := hm.below.size; simp [drew_heap] at this; exact this, hO.mr (by repeat (first | (with_reducible exact Mr.refl _) | (with_reducible assumption) | (with_reducible apply Mr.drew) | (with_reducible apply Mr.alloc) | (with_reducible apply Mr.ext) | (with_reducible refine Mr.setCell ?_ (by first | (simp; done) | (simp; omega) | omega | (refine leOf0 ?_; (repeat (first | (with_reducible exact Mr.refl _) | (with_reducible apply Mr.drew) | (with_reducible apply Mr.alloc) | (with_reducible apply Mr.ext) | (with_reducible refine Mr.setCell ?_ (by first | (simp; done) | (simp; omega) | omega) _))); done) | (refine leOf ?_; (repeat (first | (with_reducible exact Mr.refl _) | (with_reducible apply Mr.drew) | (with_reducible apply Mr.alloc) | (with_reducible apply Mr.ext) | (with_reducible refine Mr.setCell ?_ (by first | (simp; done) | (simp; omega) | omega) _))); done)) _))), World.rowIs_made _ _ _ _, ((Mr.refl w).drew.trans hm).alloc _⟩
    · simp [drew_heap] at hg
      have hT : Ob (w.alloc (.cells (madeCells #[.int .u64 0] m) 24)) w.heap.size m (fun _ => 0) := World.rowIs_made _ _ _ _
      go_wp2_with fail
      go_meet
      case rel => exact ⟨g, w.heap.size, rfl, rfl, by omega, by omega, Nat.le_refl _, hO, Ob.mr (World.rowIs.drew hT) hm, ((Mr.refl w).alloc _).drew.trans hm⟩
  case rest =>
    obtain ⟨g0, t, rfl, rfl, hne, hg0, ht0, hO0, hT0, hm0⟩ := hcut
    have hne' : t ≠ g0 := fun e => hne e.symm
    have hlen := g.1.le
    have hmax : q.length ≤ maxLen := Nat.le_trans g.1.le g.1.max
    unfold maxLen at hmax
    go_wp2
    go_loopw [17] (fun i wr => ∃ k : Nat, k ≤ m ∧ i = .int .i64 k ∧ (∃ F T, Ob wr g0 N F ∧ Hid (∀ j, j < N → F j = gt (runM l (q.take k)) j) ∧ Ob wr t m T ∧ Hid (∀ j, j < k → T j = gt (runW l (q.take k)) j)) ∧ Mr w wr) (fun i _ => (m - intOf i).toNat)
    case atStart => exact ⟨0, by omega, by first | rfl | simp, ⟨_, _, hO0.mr (by repeat (first | (with_reducible exact Mr.refl _) | (with_reducible assumption) | (with_reducible apply Mr.drew) | (with_reducible apply Mr.alloc) | (with_reducible apply Mr.ext) | (with_reducible refine Mr.setCell ?_ (by first | (simp; done) | (simp; omega) | omega | (refine leOf0 ?_; (repeat (first | (with_reducible exact Mr.refl _) | (with_reducible apply Mr.drew) | (with_reducible apply Mr.alloc) | (with_reducible apply Mr.ext) | (with_reducible refine Mr.setCell ?_ (by first | (simp; done) | (simp; omega) | omega) _))); done) | (refine leOf ?_; (repeat (first | (with_reducible exact Mr.refl _) | (with_reducible apply Mr.drew) | (with_reducible apply Mr.alloc) | (with_reducible apply Mr.ext) | (with_reducible refine Mr.setCell ?_ (by first | (simp; done) | (simp; omega) | omega) _))); done)) _))), fun j hj => by show gt l j = gt (cut l) j; rw [gt_cut' eN hj], hT0.mr (by repeat (first | (with_reducible exact Mr.refl _) | (with_reducible assumption) | (with_reducible apply Mr.drew) | (with_reducible apply Mr.alloc) | (with_reducible apply Mr.ext) | (with_reducible refine Mr.setCell ?_ (by first | (simp; done) | (simp; omega) | omega | (refine leOf0 ?_; (repeat (first | (with_reducible exact Mr.refl _) | (with_reducible apply Mr.drew) | (with_reducible apply Mr.alloc) | (with_reducible apply Mr.ext) | (with_reducible refine Mr.setCell ?_ (by first | (simp; done) | (simp; omega) | omega) _))); done) | (refine leOf ?_; (repeat (first | (with_reducible exact Mr.refl _) | (with_reducible apply Mr.drew) | (with_reducible apply Mr.alloc) | (with_reducible apply Mr.ext) | (with_reducible refine Mr.setCell ?_ (by first | (simp; done) | (simp; omega) | omega) _))); done)) _))), fun j hj => by omega⟩, (by repeat (first | (with_reducible exact Mr.refl _) | (with_reducible assumption) | (with_reducible apply Mr.drew) | (with_reducible apply Mr.alloc) | (with_reducible apply Mr.ext) | (with_reducible refine Mr.setCell ?_ (by first | (simp; done) | (simp; omega) | omega | (refine leOf0 ?_; (repeat (first | (with_reducible exact Mr.refl _) | (with_reducible apply Mr.drew) | (with_reducible apply Mr.alloc) | (with_reducible apply Mr.ext) | (with_reducible refine Mr.setCell ?_ (by first | (simp; done) | (simp; omega) | omega) _))); done) | (refine leOf ?_; (repeat (first | (with_reducible exact Mr.refl _) | (with_reducible apply Mr.drew) | (with_reducible apply Mr.alloc) | (with_reducible apply Mr.ext) | (with_reducible refine Mr.setCell ?_ (by first | (simp; done) | (simp; omega) | omega) _))); done)) _)))⟩
    case round =>
      obtain ⟨k, hk, rfl, ⟨F, T, hO, hF, hT, hTv⟩, hm⟩ := hrel
      by_cases hlt : k < m
      · have hlt' : (k : Int) < m := by omega
        obtain ⟨b1, o1, k1, j1, p1, r1, rfl, hb1, hq1, hok, hc0, hc1, hc2, hc3⟩ := (g.mr hm).num k (by omega)
        have hRl : (cut (runM l (q.take k))).length = N := by rw [runM_all, runM_len, eN]
        have hRb : Wb (runM l (q.take k)) := Wb.runM hb (fun x hx => g.2 x (List.mem_of_mem_take hx))
        have hS : Hid (runM l (q.take (k + 1)) = doM (runM l (q.take k)) ⟨k1, j1, p1, r1⟩ ∧ runW l (q.take (k + 1)) = runW l (q.take k) ++ [doW (runM l (q.take k)) ⟨k1, j1, p1, r1⟩]) := by
          have : q.take (k + 1) = q.take k ++ [⟨k1, j1, p1, r1⟩] := by rw [List.take_add_one, hq1]; rfl
          rw [Hid, this, runM_snoc, runW_snoc]
          exact ⟨rfl, rfl⟩
        have hWl : Hid ((runW l (q.take k)).length = k) := by rw [Hid, runW_len, List.length_take]; omega
        have hTl := hT.lt
        generalize runM l (q.take k) = M at *
        generalize hnv : doW M ⟨k1, j1, p1, r1⟩ = nv at *
        have hF := hF.out
        clear g h hq1 hO0 hT0 hm0
        go_wp2_with (go_at_call 45; refine (cell_do_c _ (hO.mr (by repeat (first | (with_reducible exact Mr.refl _) | (with_reducible assumption) | (with_reducible apply Mr.drew) | (with_reducible apply Mr.alloc) | (with_reducible apply Mr.ext) | (with_reducible refine Mr.setCell ?_ (by first | (simp; done) | (simp; omega) | omega | (refine leOf0 ?_; (repeat (first | (with_reducible exact Mr.refl _) | (with_reducible apply Mr.drew) | (with_reducible apply Mr.alloc) | (with_reducible apply Mr.ext) | (with_reducible refine Mr.setCell ?_ (by first | (simp; done) | (simp; omega) | omega) _))); done) | (refine leOf ?_; (repeat (first | (with_reducible exact Mr.refl _) | (with_reducible apply Mr.drew) | (with_reducible apply Mr.alloc) | (with_reducible apply Mr.ext) | (with_reducible refine Mr.setCell ?_ (by first | (simp; done) | (simp; omega) | omega) _))); done)) _)))) hRl hF hRb hok).mono ?_; rw [hnv]; rintro e w2 ⟨rfl, ⟨G, hO2, hG⟩, hK⟩; have hT2 := hK.2 t m T hne' (hT.mr (by repeat (first | (with_reducible exact Mr.refl _) | (with_reducible assumption) | (with_reducible apply Mr.drew) | (with_reducible apply Mr.alloc) | (with_reducible apply Mr.ext) | (with_reducible refine Mr.setCell ?_ (by first | (simp; done) | (simp; omega) | omega | (refine leOf0 ?_; (repeat (first | (with_reducible exact Mr.refl _) | (with_reducible apply Mr.drew) | (with_reducible apply Mr.alloc) | (with_reducible apply Mr.ext) | (with_reducible refine Mr.setCell ?_ (by first | (simp; done) | (simp; omega) | omega) _))); done) | (refine leOf ?_; (repeat (first | (with_reducible exact Mr.refl _) | (with_reducible apply Mr.drew) | (with_reducible apply Mr.alloc) | (with_reducible apply Mr.ext) | (with_reducible refine Mr.setCell ?_ (by first | (simp; done) | (simp; omega) | omega) _))); done)) _)))); have q1 := hT2.cell (i := k) hlt; have q2 := hT2.frozen k; have q3 := hT2.lt)
        go_roundw
        case rel => exact ⟨k + 1, by omega, by go_num, ⟨_, _, hO2.other hne, by rw [hS.out.1]; exact hG, hT2.put k nv, fun j hj => by
            rw [hS.out.2, gt_snoc]
            rw [hWl.out]
            by_cases e : j = k
            · rw [if_pos e, if_neg (by omega), if_pos e]
            · rw [if_neg e, if_pos (by omega)]; exact hTv.out j (by omega)⟩, (hK.1 _ (by repeat (first | (with_reducible exact Mr.refl _) | (with_reducible assumption) | (with_reducible apply Mr.drew) | (with_reducible apply Mr.alloc) | (with_reducible apply Mr.ext) | (with_reducible refine Mr.setCell ?_ (by first | (simp; done) | (simp; omega) | omega | (refine leOf0 ?_; (repeat (first | (with_reducible exact Mr.refl _) | (with_reducible apply Mr.drew) | (with_reducible apply Mr.alloc) | (with_reducible apply Mr.ext) | (with_reducible refine Mr.setCell ?_ (by first | (simp; done) | (simp; omega) | omega) _))); done) | (refine leOf ?_; (repeat (first | (with_reducible exact Mr.refl _) | (with_reducible apply Mr.drew) | (with_reducible apply Mr.alloc) | (with_reducible apply Mr.ext) | (with_reducible refine Mr.setCell ?_ (by first | (simp; done) | (simp; omega) | omega) _))); done)) _))) hg0).setCell ht0 _⟩
        case measure => simp [intOf]; omega
      · obtain rfl : k = m := by omega
        rw [List.take_of_length_le (by omega)] at hF hTv
        have hA := hO.list (l := runM l q) (by have := cut_len l; unfold maxLen; omega) (by rw [runM_len, eN]) (Wb.runM hb g.2) hF.out
        have hB := hT.list (l := runW l q) (by unfold maxLen; omega) (by rw [runW_len, em]) (Wb.runW hb g.2) hTv.out
        clear g h hF hTv hO hT hO0 hT0 hm0
        go_wp2
        go_ret2
        exact ⟨_, _, _, _, rfl, (fun b o e => by simp only [Option.some.injEq, Addr.mk.injEq] at e; obtain ⟨rfl, -, -⟩ := e; exact hg0), ⟨_, hm⟩, rfl, hA, hB⟩
theorem crun_c {a b : Option Addr} {c d n m : Nat} {l : List Int} {q : List Acc} (w : World) (h : Wl.Is w a c l) (en : l.length = n) (g : Accs w b d q) (em : q.length = m) (hm6 : m ≤ 100000) :
    Calls Try.prog 40 #[.slice a n c, .slice b m d] w fun e w' => ∃ a1 c1 a2 c2, e = .returned (.tuple #[.slice a1 (cut l).length c1, .slice a2 m c2]) ∧ ∃ x : Ext w, w' = x.u ∧ Wl.Is x.u a1 c1 (runM l q) ∧ Wl.Is x.u a2 c2 (runW l q) :=
  (crun_n w h en g em hm6).mono fun _ _ ⟨a1, c1, a2, c2, e, _, r⟩ => ⟨a1, c1, a2, c2, e, r⟩
end Ce
end Go.Proofs.Ytnbejkhcifeeiaa
