/- The document's own answers of layer 10, last part: what solves an even matrix. -/
import Derived.Test.YtpammdogkkipbaaRefC27
import Derived.Test.YtpammdogkkipbaaSolveM2
namespace Go.Proofs.Ytpammdogkkipbaa
open Go.ChangeShapes Go.WideShapes Go.ChangeAt Go.RowKit
open Go.Proofs.Ytpammdogkkipbaa.Fx Go.Proofs.Ytpammdogkkipbaa.Wd Go.Proofs.Ytpammdogkkipbaa.Sc Go.Proofs.Ytpammdogkkipbaa.Sl Go.Proofs.Ytpammdogkkipbaa.Sm
set_option linter.unusedVariables false
attribute [local go_sem] Ext.cell Ext.froz Ext.lt Ext.lt1 Ext.lt2 Ext.lt3 Ext.all Ext.set_u drew_heap setCell_size Ext.set_size
namespace Sv
open Ma
/-- The answers on their way: the first column .. -/
def y1 (b : Nat → Int) (L : Nat → Nat → Int) (i p : Nat) : Int := if p < i then Yf b L p else 0
def y2 (b : Nat → Int) (L : Nat → Nat → Int) (i q p : Nat) : Int := if p < i then Yf b L p else if p = i then yr (b i) (L i) (Yf b L) q else 0
theorem y_a (b : Nat → Int) (L : Nat → Nat → Int) (i p : Nat) : (if p = i then sv (b i) 0 else y1 b L i p) = y2 b L i 0 p := by
  unfold y1 y2
  by_cases e : p = i
  · subst e; rw [if_pos rfl, if_neg (by omega), if_pos rfl]; rfl
  · rw [if_neg e, if_neg e]
theorem y_b (b : Nat → Int) (L : Nat → Nat → Int) (i q p : Nat) : (if p = i then sv (yr (b i) (L i) (Yf b L) q) (tv (L i q) (Yf b L q)) else y2 b L i q p) = y2 b L i (q + 1) p := by
  unfold y2
  by_cases e : p = i
  · subst e; rw [if_pos rfl, if_neg (by omega), if_pos rfl]; rfl
  · rw [if_neg e, if_neg e, if_neg e]
theorem y_c (b : Nat → Int) (L : Nat → Nat → Int) (i p : Nat) : y2 b L i i p = y1 b L (i + 1) p := by
  unfold y1 y2
  by_cases l : p < i
  · rw [if_pos l, if_pos (by omega)]
  · rw [if_neg l]
    by_cases e : p = i
    · subst e; rw [if_pos rfl, if_pos (by omega), Yf_eq]
    · rw [if_neg e, if_neg (by omega)]
/-- .. divided .. -/
def z1 (b : Nat → Int) (L : Nat → Nat → Int) (D : Nat → Int) (i p : Nat) : Int := if p < i then Zf b L D p else Yf b L p
theorem z_a (b : Nat → Int) (L : Nat → Nat → Int) (D : Nat → Int) (i p : Nat) : (if p = i then qv (Yf b L i) (D i) else z1 b L D i p) = z1 b L D (i + 1) p := by
  unfold z1
  by_cases e : p = i
  · subst e; rw [if_pos rfl, if_pos (by omega)]; rfl
  · rw [if_neg e]
    by_cases l : p < i
    · rw [if_pos l, if_pos (by omega)]
    · rw [if_neg l, if_neg (by omega)]
/-- .. from the last one down. -/
def x1 (z : Nat → Int) (L : Nat → Nat → Int) (n m p : Nat) : Int := if n - m ≤ p then Xf z L n p else z p
def x2 (z : Nat → Int) (L : Nat → Nat → Int) (n i r p : Nat) : Int := if i < p then Xf z L n p else if p = i then xr (z i) (fun r => L r i) (Xf z L n) i r else z p
theorem x_a {z : Nat → Int} {L : Nat → Nat → Int} {n m i : Nat} (hi : i + m + 1 = n) (p : Nat) : x1 z L n m p = x2 z L n i 0 p := by
  unfold x1 x2
  by_cases l : i < p
  · rw [if_pos (by omega), if_pos l]
  · rw [if_neg (by omega), if_neg l]
    by_cases e : p = i
    · subst e; rw [if_pos rfl]; rfl
    · rw [if_neg e]
theorem x_b (z : Nat → Int) (L : Nat → Nat → Int) (n i r p : Nat) : (if p = i then sv (xr (z i) (fun r => L r i) (Xf z L n) i r) (tv (L (i + 1 + r) i) (Xf z L n (i + 1 + r))) else x2 z L n i r p) = x2 z L n i (r + 1) p := by
  unfold x2
  by_cases e : p = i
  · subst e; rw [if_pos rfl, if_neg (by omega), if_pos rfl]; rfl
  · rw [if_neg e, if_neg e, if_neg e]
theorem x_c {z : Nat → Int} {L : Nat → Nat → Int} {n m i : Nat} (hi : i + m + 1 = n) (p : Nat) (hp : p < n) : x2 z L n i m p = x1 z L n (m + 1) p := by
  unfold x1 x2
  by_cases l : i < p
  · rw [if_pos l, if_pos (by omega)]
  · rw [if_neg l]
    by_cases e : p = i
    · subst e
      rw [if_pos rfl, if_pos (by omega), Xf_eq z L n p hp]
      obtain rfl : m = n - 1 - p := by omega
      rfl
    · rw [if_neg e, if_neg (by omega)]
theorem xflag {z : Nat → Int} {L : Nat → Nat → Int} {n : Nat} : anyB (fun t => xB z L n (n - 1 - t)) n = anyB (xB z L n) n := by
  rw [Bool.eq_iff_iff, anyB_iff, anyB_iff]
  constructor
  · rintro ⟨t, ht, h⟩; exact ⟨n - 1 - t, by omega, h⟩
  · rintro ⟨i, hi, h⟩; exact ⟨n - 1 - i, by omega, by rw [show n - 1 - (n - 1 - i) = i by omega]; exact h⟩
theorem row_set {W : World} {b n : Nat} {f g : Nat → Int} (h : W.rowIs b 3 n (fun k => .int .i64 (f k))) (i : Nat) (V : Int) (e : ∀ p, p < n → (if p = i then V else f p) = g p) : (W.setCell ⟨b, i, none⟩ (.int .i64 V)).rowIs b 3 n (fun k => .int .i64 (g k)) :=
  (h.set i _).congr (fun p hp => by rw [← e p hp]; split <;> rfl)
/-- All that is there while it is solved. -/
structure Sw (w : World) (G cc : Nat) (R : Nat → Nat) (Lq : Nat → Nat → Int) (D : Nat) (Dq : Nat → Int) (X B m : Nat) (W : World) (f : Nat → Int) (b : Bool) : Prop where
  oc : Oc w.heap.size W G m cc R Lq
  hd : W.rowIs D 3 m (fun k => .int .i64 (Dq k))
  hx : W.rowIs X 3 m (fun k => .int .i64 (f k))
  bo : Bo W B b
  mr : Mr w W
  hwB : w.heap.size ≤ B
  hwX : w.heap.size ≤ X
  hRX : ∀ i, i < m → R i ≠ X
  hDX : D ≠ X
section
variable {w : World} {G cc : Nat} {R : Nat → Nat} {Lq : Nat → Nat → Int} {D : Nat} {Dq : Nat → Int} {X B m : Nat} {W : World} {f : Nat → Int} {b : Bool}
theorem Sw.kb (h : Sw w G cc R Lq D Dq X B m W f b) {W' : World} (k : Kb B W W') {b' : Bool} (hb : Bo W' B b') : Sw w G cc R Lq D Dq X B m W' f b' :=
  ⟨h.oc.kb h.bo k, row_kb h.hd h.bo k, row_kb h.hx h.bo k, hb, k.mr h.mr h.hwB, h.hwB, h.hwX, h.hRX, h.hDX⟩
theorem Sw.drew (h : Sw w G cc R Lq D Dq X B m W f b) : Sw w G cc R Lq D Dq X B m W.drew f b :=
  ⟨h.oc.mr ((Mr.refl W).drew), h.hd.drew, h.hx.drew, World.rowIs.drew h.bo, h.mr.drew, h.hwB, h.hwX, h.hRX, h.hDX⟩
theorem Sw.set (h : Sw w G cc R Lq D Dq X B m W f b) (i : Nat) (V : Int) {f' : Nat → Int} (e : ∀ p, p < m → (if p = i then V else f p) = f' p) : Sw w G cc R Lq D Dq X B m (W.setCell ⟨X, i, none⟩ (.int .i64 V)) f' b :=
  ⟨h.oc.other h.hx h.hRX i _, h.hd.setOther h.hDX _, row_set h.hx i V e, World.rowIs.setOther h.bo (fun e => h.bo.ne h.hx e.symm) _, h.mr.setCell h.hwX _, h.hwB, h.hwX, h.hRX, h.hDX⟩
theorem Sw.congr (h : Sw w G cc R Lq D Dq X B m W f b) {f' : Nat → Int} (e : ∀ p, p < m → f p = f' p) : Sw w G cc R Lq D Dq X B m W f' b :=
  ⟨h.oc, h.hd, h.hx.congr (fun p hp => by rw [e p hp]), h.bo, h.mr, h.hwB, h.hwX, h.hRX, h.hDX⟩
/-- The cells, at a place. -/
theorem Sw.cx (h : Sw w G cc R Lq D Dq X B m W f b) {i : Nat} (hi : i < m) {V : Int} (e : f i = V) : W.cell? ⟨X, i, none⟩ = some (.int .i64 V) := by rw [← e]; exact h.hx.cell hi
theorem Sw.cd (h : Sw w G cc R Lq D Dq X B m W f b) {i : Nat} (hi : i < m) {V : Int} (e : Dq i = V) : W.cell? ⟨D, i, none⟩ = some (.int .i64 V) := by rw [← e]; exact h.hd.cell hi
theorem Sw.cg (h : Sw w G cc R Lq D Dq X B m W f b) {i : Nat} (hi : i < m) : W.cell? ⟨G, i, none⟩ = some (.slice (some ⟨R i, 0, none⟩) m m) := (h.oc.at' i hi).2.2.2
theorem Sw.cl (h : Sw w G cc R Lq D Dq X B m W f b) {i j : Nat} (hi : i < m) (hj : j < m) {V : Int} (e : Lq i j = V) : W.cell? ⟨R i, j, none⟩ = some (.int .i64 V) := by rw [← e]; exact (h.oc.row i hi).2.cell hj
end
/-- What is told of what solves an even matrix. -/
def SolT (w : World) (A : List (List Int)) (v : List Int) (m : Nat) (e : Ending) (w' : World) : Prop :=
  Mr w w' ∧ ((solO A v = true ∧ ∃ X, e = .returned (.tuple #[.slice (some ⟨X, 0, none⟩) m m, .bool true]) ∧ w'.rowIs X 3 m (fun k => .int .i64 (Xf (Zf (gt v) (Lf (nm A)) (Df (nm A))) (Lf (nm A)) m k))) ∨
    (solO A v = false ∧ e = .returned (.tuple #[.slice none 0 0, .bool false])))
set_option maxRecDepth 100000 in
set_option maxHeartbeats 8000000 in
theorem rsolve_c {a b : Option Addr} {c d n m : Nat} {A : List (List Int)} {v : List Int} (w : World) (h : Rs w a c A) (en : A.length = n) (g : Is w b d v) (em : v.length = m) :
    Calls Try.prog 13 #[.slice a n c, .slice b m d] w fun e w' => SolT w A v m e w' := by
  have m0 := g.max
  have k0 := g.le
  unfold maxLen at m0
  have hm9 : m ≤ 9223372036854775807 := by omega
  clear m0 k0
  cases hf : facO A
  · have hno : solO A v = false := by unfold solO; rw [hf]; rfl
    go_enter Try.func13, Try.ntmps13
    go_wp2_with (first | (go_at_call 11; refine (rfactor_c _ h en).mono ?_; rintro e w1 ⟨hm0, hh⟩; rw [hf] at hh; obtain rfl : e = _ := (by rcases hh with ⟨hx, _⟩ | ⟨_, hx⟩; exact absurd hx (by decide); exact hx); clear hh))
    go_ret2
    exact ⟨hm0, .inr ⟨hno, rfl⟩⟩
  · by_cases hmn : m = n
    · subst hmn
      have hsq := (facO_sq hf).1
      obtain ⟨⟨h1, h6⟩, hr1⟩ := sq_ok hsq en
      have hmk2 := run_make_row' (P := Try.prog) 23 3 (.int .i64 0) 8 Try.underlying23 infoI rfl .i64 .i64 m (by omega) (by omega)
      go_enter Try.func13, Try.ntmps13
      go_wp2_with (first | (go_at_call 11; refine (rfactor_c _ h en).mono ?_; rintro e w1 ⟨hm0, hh⟩; rw [hf] at hh; replace hh := hh.resolve_right (fun q => absurd q.1 (by decide)); obtain ⟨-, G, cc, R, D, rfl, hC, hwD, hd, hRD⟩ := hh))
      obtain ⟨Lq, hLq⟩ : ∃ Lq, Lf (nm A) = Lq := ⟨_, rfl⟩
      obtain ⟨Dq, hDq⟩ : ∃ Dq, Df (nm A) = Dq := ⟨_, rfl⟩
      obtain ⟨bq, hbq⟩ : ∃ bq, gt v = bq := ⟨_, rfl⟩
      rw [hLq] at hC
      rw [hDq] at hd
      have hS : Sw w G cc R Lq D Dq (w1.heap.size + 1) w1.heap.size m ((w1.alloc (.cells #[.bool false] 46)).alloc (.cells (madeCells #[.int .i64 0] m) 3)) (y1 bq Lq 0) false := by
        have q1 := hm0.below.size
        refine ⟨hC.mr (((Mr.refl _).alloc _).alloc _), rowIs_mr hd (((Mr.refl _).alloc _).alloc _), ?_, ?_, (hm0.alloc _).alloc _, q1, by omega, fun i hi => ?_, ?_⟩
        · have := World.rowIs_made (w1.alloc (.cells #[.bool false] 46)) (.int .i64 0) m 3
          rw [show (w1.alloc (.cells #[.bool false] 46)).heap.size = w1.heap.size + 1 by simp] at this
          exact this.congr (fun i _ => by unfold y1; rw [if_neg (by omega)])
        · exact World.rowIs.alloc (World.rowIs_alloc w1 #[.bool false] 46 (fun _ => .bool false) (fun i hi => by simp at hi; subst hi; rfl)) _
        · have := (hC.row i hi).2.lt; omega
        · have := hd.lt; omega
      obtain ⟨B, hBe⟩ : ∃ B, w1.heap.size = B := ⟨_, rfl⟩
      obtain ⟨X, hXe⟩ : ∃ X, w1.heap.size + 1 = X := ⟨_, rfl⟩
      rw [hXe, hBe] at hS
      rw [hXe]
      simp only [hBe]
      generalize (w1.alloc (.cells #[.bool false] 46)).alloc (.cells (madeCells #[.int .i64 0] m) 3) = W2 at *
      clear hC hd hRD hmk2 hm0 hXe hBe
      have hbv : ∀ i, i < m → ∃ b1 o1, b = some ⟨b1, o1, none⟩ ∧ b1 < w.heap.size ∧ w.cell? ⟨b1, o1 + i, none⟩ = some (.int .i64 (bq i)) := fun i hi => by
        obtain ⟨b1, o1, e, hb, hc⟩ := g.num i (by omega)
        exact ⟨b1, o1, e, hb, by rw [← hbq]; exact hc⟩
      replace hLq : Hid (Lf (nm A) = Lq) := hLq
      replace hDq : Hid (Df (nm A) = Dq) := hDq
      replace hbq : Hid (gt v = bq) := hbq
      clear h g hr1 hsq
      go_loopw [12] (fun i wr => ∃ i0 : Nat, i0 ≤ m ∧ i = .int .i64 i0 ∧ Sw w G cc R Lq D Dq X B m wr (y1 bq Lq i0) (anyB (yB bq Lq) i0)) (fun i _ => (m - (intOf i).toNat))
      case atStart => exact ⟨0, by omega, rfl, hS⟩
      case round =>
        clear hS
        obtain ⟨i, hi, rfl, hs⟩ := hrel
        by_cases hlt : i < m
        · have hlt' : (i : Int) < m := by omega
          obtain ⟨b1, o1, rfl, hb1w, hc1w⟩ := hbv i hlt
          have hc1 := (hs.mr.below.cell (p := ⟨b1, o1 + i, none⟩) hb1w).trans hc1w
          have hset : ∀ w2 : World, Sw w G cc R Lq D Dq X B m w2 (y1 bq Lq i) (anyB (yB bq Lq) i || so (bq i) 0) → Sw w G cc R Lq D Dq X B m (w2.setCell ⟨X, i, none⟩ (.int .i64 (sv (bq i) 0))) (y2 bq Lq i 0) (anyB (yB bq Lq) i || yf (bq i) (Lq i) (Yf bq Lq) 0) := fun w2 q => q.set i _ (fun p _ => y_a bq Lq i p)
          generalize hX0 : bq i = X0 at hc1 hset
          clear hc1w
          go_wp2_with (first | (go_at_call 30; refine (less_c hs.bo X0 0).mono ?_; rintro e w2 ⟨rfl, hk1, hB1⟩; have hs1 := hs.kb hk1 hB1; have hcx1 := hs1.hx.cell hlt; have hfx1 := hs1.hx.frozen i; have hs2 := hset w2 hs1))
          subst hX0
          generalize w2.setCell ⟨X, i, none⟩ (.int .i64 (sv (bq i) 0)) = W3 at *
          clear hs1 hcx1 hfx1 hset hk1 hB1 hs hc1
          go_loopw [13] (fun k wr => ∃ q : Nat, q ≤ i ∧ k = .int .i64 q ∧ Sw w G cc R Lq D Dq X B m wr (y2 bq Lq i q) (anyB (yB bq Lq) i || yf (bq i) (Lq i) (Yf bq Lq) q)) (fun k _ => (i - (intOf k).toNat))
          case atStart => exact ⟨0, by omega, rfl, hs2⟩
          case round =>
            clear hs2
            obtain ⟨q, hq, rfl, hs⟩ := hrel
            by_cases hqt : q < i
            · have hqt' : (q : Int) < i := by omega
              have hqm : q < m := by omega
              have hqm' : (q : Int) < m := by omega
              have nq : ¬ q = i := by omega
              have nq' : ¬ i = q := by omega
              have hset : ∀ w3 : World, Sw w G cc R Lq D Dq X B m w3 (y2 bq Lq i q) (((anyB (yB bq Lq) i || yf (bq i) (Lq i) (Yf bq Lq) q) || tb (Lq i q) (Yf bq Lq q)) || so (yr (bq i) (Lq i) (Yf bq Lq) q) (tv (Lq i q) (Yf bq Lq q))) → Sw w G cc R Lq D Dq X B m (w3.setCell ⟨X, i, none⟩ (.int .i64 (sv (yr (bq i) (Lq i) (Yf bq Lq) q) (tv (Lq i q) (Yf bq Lq q))))) (y2 bq Lq i (q + 1)) (anyB (yB bq Lq) i || yf (bq i) (Lq i) (Yf bq Lq) (q + 1)) := fun w3 k => by
                have e : (anyB (yB bq Lq) i || yf (bq i) (Lq i) (Yf bq Lq) (q + 1)) = (((anyB (yB bq Lq) i || yf (bq i) (Lq i) (Yf bq Lq) q) || tb (Lq i q) (Yf bq Lq q)) || so (yr (bq i) (Lq i) (Yf bq Lq) q) (tv (Lq i q) (Yf bq Lq q))) := by
                  show (anyB (yB bq Lq) i || (yf (bq i) (Lq i) (Yf bq Lq) q || (tb (Lq i q) (Yf bq Lq q) || so (yr (bq i) (Lq i) (Yf bq Lq) q) (tv (Lq i q) (Yf bq Lq q))))) = _
                  simp only [Bool.or_assoc]
                rw [e]
                exact k.set i _ (fun p _ => y_b bq Lq i q p)
              have eY1 : y2 bq Lq i q q = Yf bq Lq q := by unfold y2; rw [if_pos hqt]
              have eV1 : y2 bq Lq i q i = yr (bq i) (Lq i) (Yf bq Lq) q := by unfold y2; rw [if_neg (by omega), if_pos rfl]
              obtain ⟨L1, eL1⟩ : ∃ L1, Lq i q = L1 := ⟨_, rfl⟩
              obtain ⟨Y1, hY1⟩ : ∃ Y1, Yf bq Lq q = Y1 := ⟨_, rfl⟩
              obtain ⟨V1, hV1⟩ : ∃ V1, yr (bq i) (Lq i) (Yf bq Lq) q = V1 := ⟨_, rfl⟩
              rw [hY1] at eY1
              rw [hV1] at eV1
              rw [eL1, hY1, hV1] at hset
              have hcg := hs.cg hlt
              have hcl := hs.cl hlt hqm eL1
              have hcy := hs.cx hqm eY1
              have hcv := hs.cx hlt eV1
              have hXl := hs.hx.lt
              have hGl := (hs.oc.at' i hlt).1
              have hRl := (hs.oc.at' i hlt).2.2.1
              have nG : ¬ G = X := hs.oc.ne hs.hx
              have nR : ¬ R i = X := hs.hRX i hlt
              clear hY1 hV1
              replace eL1 : Hid (Lq i q = L1) := eL1
              replace eY1 : Hid (y2 bq Lq i q q = Y1) := eY1
              replace eV1 : Hid (y2 bq Lq i q i = V1) := eV1
              go_wp2
              go_region_with (first | (go_at_call 31; refine (times_c hs.drew.bo L1 Y1).mono ?_; rintro e w2 ⟨rfl, hk1, hB1⟩; have hs1 := hs.drew.kb hk1 hB1; have c1 := hs1.cg hlt; have c2 := hs1.cl hlt hqm eL1.out; have c3 := hs1.cx hqm eY1.out; have c4 := hs1.cx hlt eV1.out) | (go_at_call 30; refine (less_c hs1.bo V1 (tv L1 Y1)).mono ?_; rintro e w3 ⟨rfl, hk2, hB2⟩; have hs2 := hs1.kb hk2 hB2; have e1 := hs2.cg hlt; have e2 := hs2.cl hlt hqm eL1.out; have e3 := hs2.cx hqm eY1.out; have e4 := hs2.cx hlt eV1.out; have e5 := hs2.hx.frozen i; have hs3 := hset w3 hs2))
              all_goals
                generalize w3.setCell ⟨X, i, none⟩ (.int .i64 (sv V1 (tv L1 Y1))) = W4 at *
                clear hs hs1 hs2 hk1 hk2 hB1 hB2 c1 c2 c3 c4 e1 e2 e3 e4 e5 hset hcg hcl hcy hcv
                go_wp2
                go_roundw
                case rel => exact ⟨q + 1, by omega, by go_num, hs3⟩
                case measure => simp [intOf]; omega
            · obtain rfl : q = i := by omega
              have hs2 := hs.congr (f' := y1 bq Lq (q + 1)) (fun p _ => y_c bq Lq q p)
              have e : Hid (anyB (yB bq Lq) (q + 1) = (anyB (yB bq Lq) q || yf (bq q) (Lq q) (Yf bq Lq) q)) := anyB_succ _ _
              clear hs hbv
              go_wp2
              go_roundw
              case rel => exact ⟨q + 1, by omega, by go_num, by rw [e.out]; exact hs2⟩
              case measure => simp [intOf]; omega
        · obtain rfl : i = m := by omega
          have hz := hs.congr (f' := z1 bq Lq Dq 0) (fun p hp => by unfold y1 z1; rw [if_pos hp, if_neg (by omega)])
          clear hs hbv
          go_wp2
          go_loopw [14] (fun k wr => ∃ q : Nat, q ≤ i ∧ k = .int .i64 q ∧ Sw w G cc R Lq D Dq X B i wr (z1 bq Lq Dq q) (anyB (yB bq Lq) i || anyB (zB bq Lq Dq) q)) (fun k _ => (i - (intOf k).toNat))
          case atStart => exact ⟨0, by omega, rfl, by rw [show anyB (zB bq Lq Dq) 0 = false from rfl, Bool.or_false]; exact hz⟩
          case round =>
            clear hz
            obtain ⟨q, hq, rfl, hs⟩ := hrel
            by_cases hqt : q < i
            · have hqt' : (q : Int) < i := by omega
              have hset : ∀ w3 : World, Sw w G cc R Lq D Dq X B i w3 (z1 bq Lq Dq q) ((anyB (yB bq Lq) i || anyB (zB bq Lq Dq) q) || qb (Yf bq Lq q) (Dq q)) → Sw w G cc R Lq D Dq X B i (w3.setCell ⟨X, q, none⟩ (.int .i64 (qv (Yf bq Lq q) (Dq q)))) (z1 bq Lq Dq (q + 1)) (anyB (yB bq Lq) i || anyB (zB bq Lq Dq) (q + 1)) := fun w3 k => by
                rw [anyB_succ, show zB bq Lq Dq q = qb (Yf bq Lq q) (Dq q) from rfl, ← Bool.or_assoc]
                exact k.set q _ (fun p _ => z_a bq Lq Dq q p)
              have eV1 : z1 bq Lq Dq q q = Yf bq Lq q := by unfold z1; rw [if_neg (by omega)]
              obtain ⟨D1, eD1⟩ : ∃ D1, Dq q = D1 := ⟨_, rfl⟩
              obtain ⟨V1, hV1⟩ : ∃ V1, Yf bq Lq q = V1 := ⟨_, rfl⟩
              rw [hV1] at eV1
              rw [eD1, hV1] at hset
              have hcd := hs.cd hqt eD1
              have hcv := hs.cx hqt eV1
              have hXl := hs.hx.lt
              have hDl := hs.hd.lt
              have nD : ¬ D = X := hs.hDX
              clear hV1
              replace eD1 : Hid (Dq q = D1) := eD1
              replace eV1 : Hid (z1 bq Lq Dq q q = V1) := eV1
              go_wp2
              go_region_with (first | (go_at_call 27; refine (over_c hs.drew.bo V1 D1).mono ?_; rintro e w2 ⟨rfl, hk1, hB1⟩; have hs1 := hs.drew.kb hk1 hB1; have c1 := hs1.cd hqt eD1.out; have c2 := hs1.cx hqt eV1.out; have c3 := hs1.hx.frozen q; have hs3 := hset w2 hs1))
              all_goals
                generalize w2.setCell ⟨X, q, none⟩ (.int .i64 (qv V1 D1)) = W4 at *
                clear hs hs1 hk1 hB1 c1 c2 c3 hset hcd hcv
                go_wp2
                go_roundw
                case rel => exact ⟨q + 1, by omega, by go_num, hs3⟩
                case measure => simp [intOf]; omega
            · obtain rfl : q = i := by omega
              have hz := hs.congr (f' := x1 (Zf bq Lq Dq) Lq q 0) (fun p hp => by unfold z1 x1; rw [if_pos hp, if_neg (by omega)])
              obtain ⟨Z, hZ⟩ : ∃ Z, Zf bq Lq Dq = Z := ⟨_, rfl⟩
              obtain ⟨F0, hF0⟩ : ∃ F0, (anyB (yB bq Lq) q || anyB (zB bq Lq Dq) q) = F0 := ⟨_, rfl⟩
              rw [hZ, hF0] at hz
              replace hZ : Hid (Zf bq Lq Dq = Z) := hZ
              replace hF0 : Hid ((anyB (yB bq Lq) q || anyB (zB bq Lq Dq) q) = F0) := hF0
              clear hs
              go_wp2
              go_loopw [15] (fun k wr => ∃ t : Nat, t ≤ q ∧ ∃ I0 : Int, k = .int .i64 I0 ∧ I0 = (q : Int) - 1 - t ∧ Sw w G cc R Lq D Dq X B q wr (x1 Z Lq q t) (F0 || anyB (fun s => xB Z Lq q (q - 1 - s)) t)) (fun k _ => (intOf k + 1).toNat)
              case atStart => exact ⟨0, by omega, _, rfl, by omega, by rw [show anyB (fun s => xB Z Lq q (q - 1 - s)) 0 = false from rfl, Bool.or_false]; exact hz⟩
              case round =>
                clear hz
                obtain ⟨t, ht, I0, rfl, hI0, hs⟩ := hrel
                by_cases htq : t < q
                · obtain ⟨i, hi⟩ : ∃ i : Nat, i + t + 1 = q := ⟨q - 1 - t, by omega⟩
                  obtain rfl : I0 = (i : Int) := by omega
                  have hlt : i < q := by omega
                  have hlt' : (i : Int) < q := by omega
                  have hi0 : (0 : Int) ≤ i := by omega
                  have hs0 := hs.congr (f' := x2 Z Lq q i 0) (fun p _ => x_a hi p)
                  obtain ⟨F1, hF1⟩ : ∃ F1, (F0 || anyB (fun s => xB Z Lq q (q - 1 - s)) t) = F1 := ⟨_, rfl⟩
                  rw [hF1] at hs0
                  replace hF1 : Hid ((F0 || anyB (fun s => xB Z Lq q (q - 1 - s)) t) = F1) := hF1
                  clear hs hI0
                  go_wp2
                  go_loopw [16] (fun k wr => ∃ r : Nat, r ≤ t ∧ k = .int .i64 ((i + 1 + r : Nat) : Int) ∧ Sw w G cc R Lq D Dq X B q wr (x2 Z Lq q i r) (F1 || xf (Z i) (fun r => Lq r i) (Xf Z Lq q) i r)) (fun k _ => (q - (intOf k).toNat))
                  case atStart => exact ⟨0, by omega, by first | rfl | go_num | simp, by rw [show xf (Z i) (fun r => Lq r i) (Xf Z Lq q) i 0 = false from rfl, Bool.or_false]; exact hs0⟩
                  case round =>
                    clear hs0
                    obtain ⟨r, hr, rfl, hs⟩ := hrel
                    by_cases hrt : r < t
                    · obtain ⟨K, hK⟩ : ∃ K, i + 1 + r = K := ⟨_, rfl⟩
                      have hKq : K < q := by omega
                      have hKq' : (K : Int) < q := by omega
                      have nq : ¬ K = i := by omega
                      have nq' : ¬ i = K := by omega
                      have hset : ∀ w3 : World, Sw w G cc R Lq D Dq X B q w3 (x2 Z Lq q i r) (((F1 || xf (Z i) (fun r => Lq r i) (Xf Z Lq q) i r) || tb (Lq K i) (Xf Z Lq q K)) || so (xr (Z i) (fun r => Lq r i) (Xf Z Lq q) i r) (tv (Lq K i) (Xf Z Lq q K))) → Sw w G cc R Lq D Dq X B q (w3.setCell ⟨X, i, none⟩ (.int .i64 (sv (xr (Z i) (fun r => Lq r i) (Xf Z Lq q) i r) (tv (Lq K i) (Xf Z Lq q K))))) (x2 Z Lq q i (r + 1)) (F1 || xf (Z i) (fun r => Lq r i) (Xf Z Lq q) i (r + 1)) := fun w3 k => by
                        subst hK
                        have e : (F1 || xf (Z i) (fun r => Lq r i) (Xf Z Lq q) i (r + 1)) = (((F1 || xf (Z i) (fun r => Lq r i) (Xf Z Lq q) i r) || tb (Lq (i + 1 + r) i) (Xf Z Lq q (i + 1 + r))) || so (xr (Z i) (fun r => Lq r i) (Xf Z Lq q) i r) (tv (Lq (i + 1 + r) i) (Xf Z Lq q (i + 1 + r)))) := by
                          show (F1 || (xf (Z i) (fun r => Lq r i) (Xf Z Lq q) i r || (tb (Lq (i + 1 + r) i) (Xf Z Lq q (i + 1 + r)) || so (xr (Z i) (fun r => Lq r i) (Xf Z Lq q) i r) (tv (Lq (i + 1 + r) i) (Xf Z Lq q (i + 1 + r)))))) = _
                          simp only [Bool.or_assoc]
                        rw [e]
                        exact k.set i _ (fun p _ => x_b Z Lq q i r p)
                      have eY1 : x2 Z Lq q i r K = Xf Z Lq q K := by unfold x2; rw [if_pos (by omega)]
                      have eV1 : x2 Z Lq q i r i = xr (Z i) (fun r => Lq r i) (Xf Z Lq q) i r := by unfold x2; rw [if_neg (by omega), if_pos rfl]
                      obtain ⟨L1, eL1⟩ : ∃ L1, Lq K i = L1 := ⟨_, rfl⟩
                      obtain ⟨Y1, hY1⟩ : ∃ Y1, Xf Z Lq q K = Y1 := ⟨_, rfl⟩
                      obtain ⟨V1, hV1⟩ : ∃ V1, xr (Z i) (fun r => Lq r i) (Xf Z Lq q) i r = V1 := ⟨_, rfl⟩
                      rw [hY1] at eY1
                      rw [hV1] at eV1
                      rw [eL1, hY1, hV1] at hset
                      have hcg := hs.cg hKq
                      have hcl := hs.cl hKq hlt eL1
                      have hcy := hs.cx hKq eY1
                      have hcv := hs.cx hlt eV1
                      have hXl := hs.hx.lt
                      have hGl := (hs.oc.at' K hKq).1
                      have hRl := (hs.oc.at' K hKq).2.2.1
                      have nG : ¬ G = X := hs.oc.ne hs.hx
                      have nR : ¬ R K = X := hs.hRX K hKq
                      clear hY1 hV1
                      replace eL1 : Hid (Lq K i = L1) := eL1
                      replace eY1 : Hid (x2 Z Lq q i r K = Y1) := eY1
                      replace eV1 : Hid (x2 Z Lq q i r i = V1) := eV1
                      have hKn : ((i + 1 + r : Nat) : Int) = K := by omega
                      rw [hKn]
                      replace hK : Hid (i + 1 + r = K) := hK
                      clear hKn
                      go_wp2
                      go_region_with (first | (go_at_call 31; refine (times_c hs.drew.bo L1 Y1).mono ?_; rintro e w2 ⟨rfl, hk1, hB1⟩; have hs1 := hs.drew.kb hk1 hB1; have c1 := hs1.cg hKq; have c2 := hs1.cl hKq hlt eL1.out; have c3 := hs1.cx hKq eY1.out; have c4 := hs1.cx hlt eV1.out) | (go_at_call 30; refine (less_c hs1.bo V1 (tv L1 Y1)).mono ?_; rintro e w3 ⟨rfl, hk2, hB2⟩; have hs2 := hs1.kb hk2 hB2; have e1 := hs2.cg hKq; have e2 := hs2.cl hKq hlt eL1.out; have e3 := hs2.cx hKq eY1.out; have e4 := hs2.cx hlt eV1.out; have e5 := hs2.hx.frozen i; have hs3 := hset w3 hs2))
                      all_goals
                        generalize w3.setCell ⟨X, i, none⟩ (.int .i64 (sv V1 (tv L1 Y1))) = W4 at *
                        clear hs hs1 hs2 hk1 hk2 hB1 hB2 c1 c2 c3 c4 e1 e2 e3 e4 e5 hset hcg hcl hcy hcv
                        go_wp2
                        go_roundw
                        case rel => exact ⟨r + 1, by omega, by have := hK.out; congr 1; omega, hs3⟩
                        case measure => have := hK.out; simp [intOf]; omega
                    · obtain rfl : r = t := by omega
                      have hs2 := hs.congr (f' := x1 Z Lq q (r + 1)) (fun p hp => x_c hi p hp)
                      have e : Hid ((F0 || anyB (fun s => xB Z Lq q (q - 1 - s)) (r + 1)) = (F1 || xf (Z i) (fun r => Lq r i) (Xf Z Lq q) i r)) := by
                        show (F0 || anyB (fun s => xB Z Lq q (q - 1 - s)) (r + 1)) = _
                        rw [anyB_succ, ← Bool.or_assoc, hF1.out, show q - 1 - r = i by omega]
                        unfold xB
                        rw [show q - 1 - i = r by omega]
                      have hKn : ((i + 1 + r : Nat) : Int) = q := by omega
                      rw [hKn]
                      clear hs hKn
                      go_wp2
                      go_roundw
                      case rel => exact ⟨r + 1, by omega, _, rfl, by omega, by rw [e.out]; exact hs2⟩
                      case measure => first | (simp [intOf]; done) | (simp [intOf]; omega)
                · obtain rfl : t = q := by omega
                  have hneg : I0 < 0 := by omega
                  have hneg' : ¬ 0 ≤ I0 := by omega
                  have hx := hs.hx.congr (g := fun k => .int .i64 (Xf Z Lq t k)) (fun p hp => by unfold x1; rw [if_pos (by omega)])
                  have hF : Hid (solB bq Lq Dq t = (F0 || anyB (fun s => xB Z Lq t (t - 1 - s)) t)) := by
                    show solB bq Lq Dq t = _
                    rw [xflag, ← hF0.out, ← hZ.out]
                    rfl
                  have d2 := World.rowIs.cell hs.bo (i := 0) (by omega)
                  have hmr := hs.mr
                  cases hb : (F0 || anyB (fun s => xB Z Lq t (t - 1 - s)) t)
                  · rw [hb] at d2 hF
                    have hyes : solO A v = true := by
                      unfold solO
                      rw [hf, en, em, hbq.out, hLq.out, hDq.out, hF.out]
                      simp
                    have hx' : wr.rowIs X 3 t (fun k => .int .i64 (Xf (Zf (gt v) (Lf (nm A)) (Df (nm A))) (Lf (nm A)) t k)) := by
                      rw [hbq.out, hLq.out, hDq.out, hZ.out]; exact hx
                    clear hs hb hF hx hI0
                    go_wp2
                    go_ret2
                    exact ⟨hmr, .inl ⟨hyes, X, rfl, hx'⟩⟩
                  · rw [hb] at d2 hF
                    have hno : solO A v = false := by
                      unfold solO
                      rw [hf, en, em, hbq.out, hLq.out, hDq.out, hF.out]
                      simp
                    clear hs hb hF hx hI0
                    go_wp2
                    go_ret2
                    exact ⟨hmr, .inr ⟨hno, rfl⟩⟩
    · have hno : solO A v = false := by unfold solO; rw [en, em, decide_eq_false hmn, Bool.and_false, Bool.false_and]
      have hmn' : ¬ (m : Int) = n := by omega
      go_enter Try.func13, Try.ntmps13
      go_wp2_with (first | (go_at_call 11; refine (rfactor_c _ h en).mono ?_; rintro e w1 ⟨hm0, hh⟩; rw [hf] at hh; replace hh := hh.resolve_right (fun q => absurd q.1 (by decide)); obtain ⟨-, G, cc, R, D, rfl, hC, hwD, hd, hRD⟩ := hh))
      go_ret2
      exact ⟨hm0, .inr ⟨hno, rfl⟩⟩
end Sv
end Go.Proofs.Ytpammdogkkipbaa
