/- What holds of a play in memory, and that it stays. -/
import Derived.Test.YtnbejkhcifeeiaaRingP
import Derived.Maps.AppendAt
namespace Go.Proofs.Ytnbejkhcifeeiaa
open Go.ChangeShapes Go.WideShapes Go.ChangeAt Go.RowKit
set_option linter.unusedVariables false
namespace Rg
open Wl Ce Tk Rw
/-- No block but P has turned. -/
structure Ko (P : Nat) (W W' : World) : Prop where
  size : W.heap.size ≤ W'.heap.size
  block : ∀ k, k ≠ P → k < W.heap.size → W'.heap[k]? = W.heap[k]?
theorem Ko.refl (P : Nat) (W : World) : Ko P W W := ⟨Nat.le_refl _, fun _ _ _ => rfl⟩
theorem Ko.trans {P : Nat} {A B C : World} (h : Ko P A B) (k : Ko P B C) : Ko P A C := ⟨Nat.le_trans h.size k.size, fun j hj hl => (k.block j hj (Nat.lt_of_lt_of_le hl h.size)).trans (h.block j hj hl)⟩
theorem Ko.mr {P : Nat} {W W' : World} (h : Mr W W') : Ko P W W' := ⟨h.below.size, fun k _ hk => h.below.block k hk⟩
theorem Ko.set {P : Nat} {W W' : World} (h : Ko P W W') (k : Nat) (v : Value) : Ko P W (W'.setCell ⟨P, k, none⟩ v) :=
  ⟨by rw [setCell_size]; exact h.size, fun j hj hl => by
    simp only [World.setCell, Array.getElem?_modify]
    rw [if_neg (fun e => hj e.symm)]; exact h.block j hj hl⟩
theorem Ko.cells {P : Nat} {W W' : World} (h : Ko P W W') (o : Nat) (vs : List Value) : Ko P W (W'.setCells P o vs) :=
  ⟨by rw [setCells_size]; exact h.size, fun j hj hl => by rw [heap_cells_ne hj]; exact h.block j hj hl⟩
theorem Ko.row {P U : Nat} {W W' : World} {ty : TypeId} {c : Array Value} (h : Ko P W W') (hr : Row W U ty c) (hne : U ≠ P) : Row W' U ty c := by
  have hl := hr.lt
  unfold Row at *
  rw [h.block U hne hl]; exact hr
theorem Ko.wl {P : Nat} {W W' : World} {a : Option Addr} {c : Nat} {l : List Int} (h : Ko P W W') (g : Wl.Is W a c l) (ne : ∀ b o, a = some ⟨b, o, none⟩ → b ≠ P) : Wl.Is W' a c l :=
  ⟨g.le, g.max, g.nil, fun j hj => by
    obtain ⟨b, o, e, hb, hc⟩ := g.at' j hj
    refine ⟨b, o, e, Nat.lt_of_lt_of_le hb h.size, fun i hi => ?_⟩
    rw [← hc i hi]
    exact World.cell?_of_block (a := ⟨b, o + i, none⟩) (h.block b (ne b o e) hb), g.bd⟩
theorem Ko.inss {P : Nat} {W W' : World} {a : Option Addr} {c : Nat} {l : List Ins} (h : Ko P W W') (g : Inss W a c l) (ne : l ≠ [] → ∀ b o, a = some ⟨b, o, none⟩ → b ≠ P) : Inss W' a c l :=
  ⟨⟨g.1.le, g.1.max, g.1.nil, fun hj => by
    obtain ⟨b, o, e, hb, hc⟩ := g.1.at' hj
    refine ⟨b, o, e, Nat.lt_of_lt_of_le hb h.size, fun i x hi t ht => ?_⟩
    rw [← hc i x hi t ht]
    exact World.cell?_of_block (a := ⟨b, o + (i * 5 + t), none⟩) (h.block b (ne (List.length_pos_iff.1 hj) b o e) hb)⟩, g.2⟩
theorem Ko.tis {P : Nat} {W W' : World} {a : Option Addr} {c : Nat} {t : T} (h : Ko P W W') (g : Tis W a c t) (ne : t.code ≠ [] → ∀ b o, a = some ⟨b, o, none⟩ → b ≠ P) : Tis W' a c t := ⟨h.inss g.1 ne, g.2⟩
theorem Ko.owns {P s n : Nat} {W W' : World} {e : TypeId} {v : Value} {xs : List Value} (h : Ko P W W') (g : W.ownsRow (P + 1) e s v n xs) : W'.ownsRow (P + 1) e s v n xs := by
  obtain ⟨h1, g | ⟨b, cap, cur, h2, h3, h4, h5⟩⟩ := g
  · exact ⟨h1, .inl g⟩
  · exact ⟨h1, .inr ⟨b, cap, cur, h2, h3, (h.block b (by omega) (Array.getElem?_eq_some_iff.1 h4).1).trans h4, h5⟩⟩
/-- The list of what was laid lies apart from all else. -/
def Far (s : Pl) : Prop := ∀ g, s.al = some ⟨g, 0, none⟩ → (∀ b o, s.am = some ⟨b, o, none⟩ → b ≠ g) ∧ (∀ x ∈ s.L, ∀ b o, x.a = some ⟨b, o, none⟩ → b ≠ g) ∧ (s.y.t.code ≠ [] → ∀ b o, s.y.ca = some ⟨b, o, none⟩ → b ≠ g) ∧ (s.z.t.code ≠ [] → ∀ b o, s.z.ca = some ⟨b, o, none⟩ → b ≠ g)
/-- What holds of a play. -/
structure Pin (W : World) (P : Nat) (s : Pl) : Prop where
  rg : s.rg
  row : Row W P 42 (PV s)
  mem : Wl.Is W s.am s.km s.M
  memf : ∀ b o, s.am = some ⟨b, o, none⟩ → b ≠ P
  own : W.ownsRow (P + 1) 22 1 (.slice s.al s.L.length s.kl) s.L.length (Lv.flat 1 We.enc s.L)
  few : s.L.length ≤ 100000
  six : ∀ x ∈ s.L, x.l.length = 6
  list : ∀ x ∈ s.L, Wl.Is W x.a x.c x.l
  listf : ∀ x ∈ s.L, ∀ b o, x.a = some ⟨b, o, none⟩ → b ≠ P
  y : Tis W s.y.ca s.y.cc s.y.t
  yf : s.y.t.code ≠ [] → ∀ b o, s.y.ca = some ⟨b, o, none⟩ → b ≠ P
  z : Tis W s.z.ca s.z.cc s.z.t
  zf : s.z.t.code ≠ [] → ∀ b o, s.z.ca = some ⟨b, o, none⟩ → b ≠ P
  far : Far s
theorem Pin.mr {W W' : World} {P : Nat} {s : Pl} (h : Pin W P s) (m : Mr W W') : Pin W' P s :=
  { h with row := h.row.mr m, mem := h.mem.mr m, own := Lv.owns_mr h.own m, list := fun x hx => (h.list x hx).mr m, y := h.y.mr m, z := h.z.mr m }
/-- Numbers of it have turned. -/
theorem Pin.turn {W W' : World} {P : Nat} {s : Pl} (h : Pin W P s) (k : Ko P W W') (s' : Pl) (hr : Row W' P 42 (PV s')) (e1 : s'.am = s.am) (e2 : s'.km = s.km) (e3 : s'.M = s.M) (e4 : s'.al = s.al) (e5 : s'.kl = s.kl) (e6 : s'.L = s.L) (e7 : s'.y = s.y) (e8 : s'.z = s.z) : Pin W' P s' :=
  { rg := by unfold Pl.rg; rw [e7, e8]; exact h.rg
    row := hr
    mem := by rw [e1, e2, e3]; exact k.wl h.mem h.memf
    memf := by rw [e1]; exact h.memf
    own := by rw [e4, e5, e6]; exact k.owns h.own
    few := by rw [e6]; exact h.few
    six := by rw [e6]; exact h.six
    list := by rw [e6]; exact fun x hx => k.wl (h.list x hx) (h.listf x hx)
    listf := by rw [e6]; exact h.listf
    y := by rw [e7]; exact k.tis h.y h.yf
    yf := by rw [e7]; exact h.yf
    z := by rw [e8]; exact k.tis h.z h.zf
    zf := by rw [e8]; exact h.zf
    far := by unfold Far; rw [e1, e4, e6, e7, e8]; exact h.far }
/-- Its memory and its tasks have turned. -/
theorem Pin.parts {W W' : World} {P : Nat} {s : Pl} (h : Pin W P s) (k : Ko P W W') (s' : Pl) (hr : Row W' P 42 (PV s')) (hm : Wl.Is W' s'.am s'.km s'.M) (hmf : ∀ b o, s'.am = some ⟨b, o, none⟩ → b ≠ P) (e4 : s'.al = s.al) (e5 : s'.kl = s.kl) (e6 : s'.L = s.L)
    (hy : Tis W' s'.y.ca s'.y.cc s'.y.t) (hyf : s'.y.t.code ≠ [] → ∀ b o, s'.y.ca = some ⟨b, o, none⟩ → b ≠ P) (hz : Tis W' s'.z.ca s'.z.cc s'.z.t) (hzf : s'.z.t.code ≠ [] → ∀ b o, s'.z.ca = some ⟨b, o, none⟩ → b ≠ P) (hfar : Far s') : Pin W' P s' :=
  { rg := ⟨hy.2.len, hz.2.len⟩
    row := hr
    mem := hm
    memf := hmf
    own := by rw [e4, e5, e6]; exact k.owns h.own
    few := by rw [e6]; exact h.few
    six := by rw [e6]; exact h.six
    list := by rw [e6]; exact fun x hx => k.wl (h.list x hx) (h.listf x hx)
    listf := by rw [e6]; exact h.listf
    y := hy
    yf := hyf
    z := hz
    zf := hzf
    far := hfar }
theorem Pin.stepy {W : World} {P : Nat} {s : Pl} (h : Pin W P s) (m : List Int) : (Tk.stepT s.y.t m).code ≠ [] → ∀ b o, ta s.y.t s.y.ca = some ⟨b, o, none⟩ → b ≠ P := fun hne b o e => h.yf (code_step hne) b o (by unfold ta at e; split at e; exact e; cases e)
theorem Pin.stepz {W : World} {P : Nat} {s : Pl} (h : Pin W P s) (m : List Int) : (Tk.stepT s.z.t m).code ≠ [] → ∀ b o, ta s.z.t s.z.ca = some ⟨b, o, none⟩ → b ≠ P := fun hne b o e => h.zf (code_step hne) b o (by unfold ta at e; split at e; exact e; cases e)
theorem Pin.fary {W : World} {P : Nat} {s : Pl} (h : Pin W P s) (m : List Int) {g : Nat} (e : s.al = some ⟨g, 0, none⟩) : (Tk.stepT s.y.t m).code ≠ [] → ∀ b o, ta s.y.t s.y.ca = some ⟨b, o, none⟩ → b ≠ g := fun hne b o e' => (h.far g e).2.2.1 (code_step hne) b o (by unfold ta at e'; split at e'; exact e'; cases e')
theorem Pin.farz {W : World} {P : Nat} {s : Pl} (h : Pin W P s) (m : List Int) {g : Nat} (e : s.al = some ⟨g, 0, none⟩) : (Tk.stepT s.z.t m).code ≠ [] → ∀ b o, ta s.z.t s.z.ca = some ⟨b, o, none⟩ → b ≠ g := fun hne b o e' => (h.far g e).2.2.2 (code_step hne) b o (by unfold ta at e'; split at e'; exact e'; cases e')
/-- append to what is gathered, as one step of a region that draws. -/
theorem step_append_own {P : Program} {ops : Array Oper} {o : Oper} {a : Act} {w : World} {K : Act → World → Prop} {Q : Exit → Act → World → Prop} {E : Prop}
    (hg : o.guard = none) (s x : Operand) (t : TypeId) (hop : o.op = Op.call { callee := Callee.builtin Builtin.append, args := #[s, x], argTypes := #[t, t] })
    (base : Nat) (e : TypeId) (i : TypeInfo) (z : Value) (size bytes : Nat) (h1 : P.underlying t = some (.slice e)) (h2 : P.info? e = some i) (h3 : i.zero = some z) (h4 : i.size = size) (h5 : i.bytes = bytes) (h6 : z.cells.size = size) (h7 : 0 < size)
    (v : Value) (n : Nat) (xs : List Value) (hs : a.eval s = v) (hown : w.ownsRow base e size v n xs) (ad : Addr) (m c : Nat) (news : List Value) (hx : a.eval x = .slice (some ad) m c) (hn : news.length = m * size)
    (hc : ∀ j u, news[j]? = some u → w.cell? (ad.add j) = some u) (h1c : ∀ u ∈ news, u.oneCell' = true) (b1 : n + m ≤ maxLen) (b2 : (n + m) * bytes ≤ 140737488355328) (hbase : base ≤ w.heap.size)
    (hK : ∀ v' w', w'.ownsRow base e size v' (n + m) (xs ++ news) → w.grownBy w' v.ownBlock → (v'.ownBlock = v.ownBlock ∨ v'.ownBlock = some w.heap.size) → K (a.put o.dst v') w') :
    if Region.wanted o (yielded ops a.tmps) = true then Oper.wp P o a w K Q else E := by
  have hw : Region.wanted o (yielded ops a.tmps) = true := by simp [Region.wanted, hg]
  rw [if_pos hw]
  obtain ⟨v', w', hrun, r1, r2, _, r3⟩ := run_append_own_at (P := P) (w := w) base t o.type e i z size bytes h1 h2 h3 h4 h5 h6 h7 v n xs hown ad m c news hn hc h1c b1 b2 hbase
  unfold Oper.wp
  simp [execOp, hop, resolve, invoke, builtin, hs, hx, hrun, Result.andThen]
  exact hK v' w' r1 r2 r3
theorem Pin.own_at {W : World} {P : Nat} {s : Pl} (h : Pin W P s) {g : Nat} (e : s.al = some ⟨g, 0, none⟩) : P < g ∧ g < W.heap.size := by
  obtain ⟨_, ⟨h1, _⟩ | ⟨b, cap, cur, h2, h3, h4, _⟩⟩ := h.own
  · rw [e] at h1; cases h1
  · rw [e] at h2
    simp only [Value.slice.injEq, Option.some.injEq, Addr.mk.injEq] at h2
    obtain ⟨⟨rfl, _⟩, _⟩ := h2
    exact ⟨h3, (Array.getElem?_eq_some_iff.1 h4).1⟩
/-- One more was laid. -/
theorem Pin.more {W W' : World} {P : Nat} {s : Pl} (h : Pin W P s) {x : We} (hx : Wl.Is W x.a x.c x.l) (h6 : x.l.length = 6) (hxf : ∀ b o, x.a = some ⟨b, o, none⟩ → b ≠ P ∧ ∀ g, s.al = some ⟨g, 0, none⟩ → b ≠ g) (hxl : ∀ b o, x.a = some ⟨b, o, none⟩ → b < W.heap.size)
    (hfew : s.L.length + 1 ≤ 100000) {v : Value} (hown : W'.ownsRow (P + 1) 22 1 v (s.L.length + 1) (Lv.flat 1 We.enc (s.L ++ [x]))) (hg : W.grownBy W' (Value.slice s.al s.L.length s.kl).ownBlock)
    (hv : v.ownBlock = (Value.slice s.al s.L.length s.kl).ownBlock ∨ v.ownBlock = some W.heap.size) (hlt : ∀ b o, s.am = some ⟨b, o, none⟩ → b < W.heap.size) (hll : ∀ y ∈ s.L, ∀ b o, y.a = some ⟨b, o, none⟩ → b < W.heap.size)
    (hyl : s.y.t.code ≠ [] → ∀ b o, s.y.ca = some ⟨b, o, none⟩ → b < W.heap.size) (hzl : s.z.t.code ≠ [] → ∀ b o, s.z.ca = some ⟨b, o, none⟩ → b < W.heap.size) :
    ∃ a k, v = .slice a (s.L.length + 1) k ∧ Row W' P 42 (PV s) ∧ Pin (W'.setCell ⟨P, 4, none⟩ v) P { s with al := a, kl := k, L := s.L ++ [x] } := by
  have hP := h.row.lt
  obtain ⟨a, k, hva, ha0⟩ : ∃ a k, v = .slice a (s.L.length + 1) k ∧ (∀ q, a = some q → ∃ g, q = ⟨g, 0, none⟩) := by
    obtain ⟨h1, ⟨h2, h3⟩ | ⟨g, cap, cur, h2, _⟩⟩ := hown
    · omega
    · exact ⟨_, cap, h2, fun q e => ⟨g, by cases e; rfl⟩⟩
  subst hva
  -- what else there is has not turned
  have hk : ∀ b, b < W.heap.size → (∀ g, s.al = some ⟨g, 0, none⟩ → b ≠ g) → W'.heap[b]? = W.heap[b]? := fun b hb hne => by
    refine hg.block b hb ?_
    obtain ⟨_, ⟨h1, _⟩ | ⟨g, cap, cur, h2, _⟩⟩ := h.own
    · rw [h1]; intro e; cases e
    · rw [h2]
      simp only [Value.slice.injEq] at h2
      intro e
      have := hne g h2.1
      cases e
      exact this rfl
  have hPg : ∀ g, s.al = some ⟨g, 0, none⟩ → P ≠ g := fun g e => by have := h.own_at e; omega
  have hWl : ∀ {a : Option Addr} {c : Nat} {l : List Int}, Wl.Is W a c l → (∀ b o, a = some ⟨b, o, none⟩ → ∀ g, s.al = some ⟨g, 0, none⟩ → b ≠ g) → Wl.Is W' a c l := fun g ne =>
    ⟨g.le, g.max, g.nil, fun j hj => by
      obtain ⟨b, o, e, hb, hc⟩ := g.at' j hj
      refine ⟨b, o, e, Nat.lt_of_lt_of_le hb hg.size, fun i hi => ?_⟩
      rw [← hc i hi]
      exact World.cell?_of_block (a := ⟨b, o + i, none⟩) (hk b hb (ne b o e)), g.bd⟩
  have hIn : ∀ {a : Option Addr} {c : Nat} {l : List Ins}, Inss W a c l → (l ≠ [] → ∀ b o, a = some ⟨b, o, none⟩ → ∀ g, s.al = some ⟨g, 0, none⟩ → b ≠ g) → Inss W' a c l := fun g ne =>
    ⟨⟨g.1.le, g.1.max, g.1.nil, fun hj => by
      obtain ⟨b, o, e, hb, hc⟩ := g.1.at' hj
      refine ⟨b, o, e, Nat.lt_of_lt_of_le hb hg.size, fun i x hi t ht => ?_⟩
      rw [← hc i x hi t ht]
      exact World.cell?_of_block (a := ⟨b, o + (i * 5 + t), none⟩) (hk b hb (ne (List.length_pos_iff.1 hj) b o e))⟩, g.2⟩
  have kS : Ko P W' (W'.setCell ⟨P, 4, none⟩ (.slice a (s.L.length + 1) k)) := (Ko.refl P W').set 4 _
  have hrow : Row W' P 42 (PV s) := by
    have hr := h.row
    unfold Row at *
    rw [hk P hP hPg]; exact hr
  refine ⟨a, k, rfl, hrow, ?_⟩
  refine { rg := h.rg, row := ?_, mem := ?_, memf := h.memf, own := ?_, few := ?_, six := ?_, list := ?_, listf := ?_, y := ?_, yf := h.yf, z := ?_, zf := h.zf, far := ?_ }
  · rw [← PV_set4 s a (s.L ++ [x]) k (s.L.length + 1) (by simp)]
    exact hrow.set 4 _
  · exact kS.wl (hWl h.mem (fun b o e g eg => (h.far g eg).1 b o e)) h.memf
  · have := kS.owns hown
    simpa using this
  · simpa using hfew
  · intro y hy
    rcases List.mem_append.1 hy with hy | hy
    · exact h.six y hy
    · simp only [List.mem_singleton] at hy; subst hy; exact h6
  · intro y hy
    rcases List.mem_append.1 hy with hy | hy
    · exact kS.wl (hWl (h.list y hy) (fun b o e g eg => (h.far g eg).2.1 y hy b o e)) (h.listf y hy)
    · simp only [List.mem_singleton] at hy; subst hy
      exact kS.wl (hWl hx (fun b o e => (hxf b o e).2)) (fun b o e => (hxf b o e).1)
  · intro y hy
    rcases List.mem_append.1 hy with hy | hy
    · exact h.listf y hy
    · simp only [List.mem_singleton] at hy; subst hy; exact fun b o e => (hxf b o e).1
  · exact kS.tis ⟨hIn h.y.1 (fun hne b o e g eg => (h.far g eg).2.2.1 hne b o e), h.y.2⟩ h.yf
  · exact kS.tis ⟨hIn h.z.1 (fun hne b o e g eg => (h.far g eg).2.2.2 hne b o e), h.z.2⟩ h.zf
  · intro g eg
    have eg : a = some ⟨g, 0, none⟩ := eg
    subst eg
    have hv' : (some g = (Value.slice s.al s.L.length s.kl).ownBlock) ∨ g = W.heap.size := by
      rcases hv with e | e
      · exact .inl e
      · right; simpa [Value.ownBlock] using e
    have same : some g = (Value.slice s.al s.L.length s.kl).ownBlock → s.al = some ⟨g, 0, none⟩ := fun e => by
      obtain ⟨_, ⟨h1, _⟩ | ⟨g', cap, cur, h2, _⟩⟩ := h.own
      · rw [h1] at e; cases e
      · rw [h2] at e
        simp only [Value.slice.injEq] at h2
        rw [h2.1]
        simp only [Value.ownBlock, Option.some.injEq] at e
        rw [e]
    rcases hv' with e | e
    · have e2 := same e
      obtain ⟨q1, q2, q3, q4⟩ := h.far g e2
      refine ⟨q1, fun y hy => ?_, q3, q4⟩
      rcases List.mem_append.1 hy with hy | hy
      · exact q2 y hy
      · simp only [List.mem_singleton] at hy; subst hy
        exact fun b o e' => (hxf b o e').2 g e2
    · subst e
      refine ⟨fun b o e' => Nat.ne_of_lt (hlt b o e'), fun y hy => ?_, fun hne b o e' => Nat.ne_of_lt (hyl hne b o e'), fun hne b o e' => Nat.ne_of_lt (hzl hne b o e')⟩
      rcases List.mem_append.1 hy with hy | hy
      · exact fun b o e' => Nat.ne_of_lt (hll y hy b o e')
      · simp only [List.mem_singleton] at hy; subst hy
        exact fun b o e' => Nat.ne_of_lt (hxl b o e')
theorem infoUs : (Try.prog.info? 22).map (fun i => (i.zero, i.size, i.bytes)) = some (some (.slice none 0 0), 1, 24) := by kernel_rfl
theorem Pin.lt_m {W : World} {P : Nat} {s : Pl} (h : Pin W P s) (h0 : 0 < s.M.length) : ∀ b o, s.am = some ⟨b, o, none⟩ → b < W.heap.size := fun b o e => by
  obtain ⟨b', o', e', hb, _⟩ := h.mem.at' 0 h0
  rw [e] at e'; simp only [Option.some.injEq, Addr.mk.injEq] at e'; omega
theorem Pin.lt_l {W : World} {P : Nat} {s : Pl} (h : Pin W P s) : ∀ y ∈ s.L, ∀ b o, y.a = some ⟨b, o, none⟩ → b < W.heap.size := fun y hy b o e => by
  obtain ⟨b', o', e', hb, _⟩ := (h.list y hy).at' 0 (by rw [h.six y hy]; omega)
  rw [e] at e'; simp only [Option.some.injEq, Addr.mk.injEq] at e'; omega
theorem lt_tis {W : World} {a : Option Addr} {c : Nat} {t : T} (h : Tis W a c t) : t.code ≠ [] → ∀ b o, a = some ⟨b, o, none⟩ → b < W.heap.size := fun hne b o e => by
  obtain ⟨b', o', _, _, _, _, _, e', hb, _⟩ := h.1.num 0 (List.length_pos_iff.2 hne)
  rw [e] at e'; simp only [Option.some.injEq, Addr.mk.injEq] at e'; omega
/-- What was laid is appended, in a region that draws. -/
theorem Pin.lay {W0 W : World} {P : Nat} {s : Pl} (h : Pin W P s) (m0 : Mr W0 W) (hP : W0.heap.size ≤ P) (hM : 0 < s.M.length) (hfew : s.L.length + 1 ≤ 100000) {F cw : Nat} {l : List Int} (hl : l.length = 6) (hW : Wl.Is W (some ⟨F, 0, none⟩) cw l) (hF : P < F) (hFg : ∀ g, s.al = some ⟨g, 0, none⟩ → F ≠ g)
    {A : Nat} (hc : W.cell? ⟨A, 0, none⟩ = some (.slice (some ⟨F, 0, none⟩) 6 cw)) {ops : Array Oper} {o : Oper} {a : Act} {K : Act → World → Prop} {Q : Exit → Act → World → Prop} {E : Prop} (hg : o.guard = none) (sl x : Operand)
    (hop : o.op = Op.call { callee := Callee.builtin Builtin.append, args := #[sl, x], argTypes := #[40, 40] }) {N : Nat} (hN : s.L.length = N) (hs : a.eval sl = .slice s.al N s.kl) (hx : a.eval x = .slice (some ⟨A, 0, none⟩) 1 1)
    (hK : ∀ a' k' W', Row W' P 42 (PV s) → Mr W0 W' → Pin (W'.setCell ⟨P, 4, none⟩ (.slice a' (N + 1) k')) P { s with al := a', kl := k', L := s.L ++ [⟨some ⟨F, 0, none⟩, cw, l⟩] } → K (a.put o.dst (.slice a' (N + 1) k')) W') :
    if Region.wanted o (yielded ops a.tmps) = true then Oper.wp Try.prog o a W K Q else E := by
  subst hN
  obtain ⟨i0, hi, hz0, hz1, hz2⟩ := info_parts3 infoUs
  have hPW := h.row.lt
  have hFW : F < W.heap.size := by
    obtain ⟨b', o', e', hb, _⟩ := hW.at' 0 (by omega)
    simp only [Option.some.injEq, Addr.mk.injEq] at e'; omega
  refine step_append_own hg sl x 40 hop (P + 1) 22 i0 (.slice none 0 0) 1 24 Try.underlying40 hi hz0 hz1 hz2 rfl (by decide) _ _ _ hs h.own ⟨A, 0, none⟩ 1 1 [.slice (some ⟨F, 0, none⟩) 6 cw] hx rfl ?_ ?_ (by unfold maxLen; omega) (by omega) (by omega) (fun v' W' q1 q2 q3 => ?_)
  · intro j u hu
    match j, hu with
    | 0, hu => simp at hu; subst hu; exact hc
  · intro u hu; simp at hu; subst hu; rfl
  · have hm : Mr W0 W' := m0.grownBy q2 (fun k e => by
      obtain ⟨_, ⟨h1, _⟩ | ⟨b, cap, cur, h2, h3, _⟩⟩ := h.own
      · rw [h1] at e; cases e
      · rw [h2] at e; simp only [Value.ownBlock, Option.some.injEq] at e; omega)
    have e : Lv.flat 1 We.enc [⟨some ⟨F, 0, none⟩, cw, l⟩] = [Value.slice (some ⟨F, 0, none⟩) 6 cw] := by rw [← hl]; rfl
    have q4 : W'.ownsRow (P + 1) 22 1 v' (s.L.length + 1) (Lv.flat 1 We.enc (s.L ++ [⟨some ⟨F, 0, none⟩, cw, l⟩])) := by rw [Lv.flat_append, e]; exact q1
    obtain ⟨a', k', rfl, hr, hp⟩ := h.more (x := ⟨some ⟨F, 0, none⟩, cw, l⟩) hW hl (fun b o e => by cases e; exact ⟨by omega, hFg⟩) (fun b o e => by cases e; exact hFW) hfew q4 q2 q3 (h.lt_m hM) h.lt_l (lt_tis h.y) (lt_tis h.z)
    exact hK a' k' W' hr hm hp
/-- What loads of a play's numbers ask for. -/
structure Lk (W : World) (P : Nat) (b c nx : Int) (al : Option Addr) (N kl : Nat) : Prop where
  lt : P < W.heap.size
  c1 : W.cell? ⟨P, 1, none⟩ = some (.int .i64 b)
  c2 : W.cell? ⟨P, 2, none⟩ = some (.int .i64 c)
  c3 : W.cell? ⟨P, 3, none⟩ = some (.int .i64 nx)
  c4 : W.cell? ⟨P, 4, none⟩ = some (.slice al N kl)
theorem Pin.lk {W : World} {P : Nat} {s : Pl} (h : Pin W P s) : Lk W P s.b s.c s.nx s.al s.L.length s.kl := ⟨h.row.lt, (h.row.cell 1).trans (PV_1 s), (h.row.cell 2).trans (PV_2 s), (h.row.cell 3).trans (PV_3 s), (h.row.cell 4).trans (PV_4 s)⟩
theorem Lk.mr {W W' : World} {P : Nat} {b c nx : Int} {al : Option Addr} {N kl : Nat} (h : Lk W P b c nx al N kl) (m : Mr W W') : Lk W' P b c nx al N kl := by
  have e := m.below.block P h.lt
  have q := fun k => World.cell?_of_block (a := ⟨P, k, none⟩) e
  exact ⟨Nat.lt_of_lt_of_le h.lt m.below.size, by rw [q]; exact h.c1, by rw [q]; exact h.c2, by rw [q]; exact h.c3, by rw [q]; exact h.c4⟩
/-- Start, told in such a way that its list's block is known. -/
theorem tstart_f {a : Option Addr} {c n : Nat} {l : List Ins} (w : World) (h : Inss w a c l) (en : l.length = n) :
    Calls Try.prog 24 #[.slice a n c] w fun e w' => ∃ ca cc, e = .returned (.agg (TV ca cc (Tk.start l))) ∧ (∀ b o, ca = some ⟨b, o, none⟩ → a = some ⟨b, o, none⟩) ∧ ∃ x : Ext w, w' = x.u ∧ Tis x.u ca cc (Tk.start l) := by
  refine (tstart_v w h en).mono ?_
  rintro e w' ⟨rfl, x, rfl⟩
  refine ⟨_, _, rfl, (fun b o e => by unfold sa at e; split at e; exact e; cases e), x, rfl, ?_⟩
  cases hs : sane l
  · have e1 : Tk.start l = nought := by unfold Tk.start; rw [hs]; rfl
    have e2 : sa l a = none := by unfold sa; rw [hs]; rfl
    have e3 : sc l c = 0 := by unfold sc; rw [hs]; rfl
    rw [e1, e2, e3]
    exact ⟨inss_nil, tok_nought⟩
  · have e1 : Tk.start l = rest ⟨l, 0, zeros, false, 0⟩ := by unfold Tk.start; rw [hs]; rfl
    have e2 : sa l a = a := by unfold sa; rw [hs]; rfl
    have e3 : sc l c = c := by unfold sc; rw [hs]; rfl
    rw [e1, e2, e3]
    have hT : Tok ⟨l, 0, zeros, false, 0⟩ := tok_zeros l false 0 (by omega)
    exact ⟨by rw [(rest_code _).1]; exact h.mr x.h, hT.rest hs⟩
/-- The cells of a play, as loads ask for them. -/
theorem Pin.range_y {W : World} {P : Nat} {s : Pl} (h : Pin W P s) : W.rangeAt P 7 (TV s.y.ca s.y.cc s.y.t).toList := fun j v hv => by
  have hj : j < 36 := by
    have := (List.getElem?_eq_some_iff.1 hv).1
    rwa [Pl.ty h.rg] at this
  rw [h.row.cell, PV_y h.rg hj, ← hv, Array.getElem?_toList]
theorem Pin.range_z {W : World} {P : Nat} {s : Pl} (h : Pin W P s) : W.rangeAt P 43 (TV s.z.ca s.z.cc s.z.t).toList := fun j v hv => by
  have hj : j < 36 := by
    have := (List.getElem?_eq_some_iff.1 hv).1
    rwa [Pl.tz h.rg] at this
  rw [h.row.cell, PV_z h.rg hj, ← hv, Array.getElem?_toList]
theorem Pin.there {W : World} {P : Nat} {s : Pl} (h : Pin W P s) (o : Nat) (ho : o + 36 ≤ 82) : W.there P o 36 := fun j hj => ⟨by
  rw [h.row.cell, Array.getElem?_eq_getElem (by rw [PV_size h.rg]; omega)]; rfl, h.row.froz _⟩
theorem info_T {x : Te} (h : x.t.R.length = 32) : (Try.prog.info? 27).map (·.size) = some (TV x.ca x.cc x.t).toList.length := by rw [Array.length_toList]; exact sizeT h
end Rg
end Go.Proofs.Ytnbejkhcifeeiaa
