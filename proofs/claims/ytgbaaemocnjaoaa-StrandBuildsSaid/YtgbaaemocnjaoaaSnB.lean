/- Frames and the builder of strands in memory, by roles; how each store turns them (layer 30). -/
import Derived.Test.YtgbaaemocnjaoaaRo
namespace Go.Proofs.Ytgbaaemocnjaoaa.sn
open Go.ChangeShapes Go.WideShapes Go.ChangeAt Go.RowKit
open Go.Proofs.Ytgbaaemocnjaoaa.ro
set_option linter.unusedVariables false
set_option linter.unusedSimpArgs false
abbrev Sl := Option Addr × Nat × Nat
def sl (u : Sl) : Value := .slice u.1 u.2.1 u.2.2
def enI (x : Int) : List Value := [.int .i64 x]
def enP (p : Int × Int) : List Value := [.int .i64 p.1, .int .i64 p.2]
def enN (p : Int × Int × Int) : List Value := [.int .i64 p.1, .int .i64 p.2.1, .int .i64 p.2.2]
def enA (p : Int × Int × Bool) : List Value := [.int .i64 p.1, .int .i64 p.2.1, .bool p.2.2]
def enF (F : Nat) : List Value := [.pointer (some ⟨F, 0, none⟩)]
def enS (u : Sl) : List Value := [sl u]
theorem recI : Rec 1 enI := ⟨by decide, fun _ => rfl, fun x u hu => by simp [enI] at hu; subst hu; rfl⟩
theorem recP : Rec 2 enP := ⟨by decide, fun _ => rfl, fun x u hu => by simp [enP] at hu; rcases hu with rfl | rfl <;> rfl⟩
theorem recN : Rec 3 enN := ⟨by decide, fun _ => rfl, fun x u hu => by simp [enN] at hu; rcases hu with rfl | rfl | rfl <;> rfl⟩
theorem recA : Rec 3 enA := ⟨by decide, fun _ => rfl, fun x u hu => by simp [enA] at hu; rcases hu with rfl | rfl | rfl <;> rfl⟩
theorem recF : Rec 1 enF := ⟨by decide, fun _ => rfl, fun x u hu => by simp [enF] at hu; subst hu; rfl⟩
theorem recS : Rec 1 enS := ⟨by decide, fun _ => rfl, fun x u hu => by simp [enS, sl] at hu; subst hu; rfl⟩
theorem infI : (Try.prog.info? 3).map (fun i => (i.zero, i.size, i.bytes)) = some (some (.int .i64 0), 1, 8) := by kernel_rfl
theorem infP : (Try.prog.info? 77).map (fun i => (i.zero, i.size, i.bytes)) = some (some (.agg #[.int .i64 0, .int .i64 0]), 2, 16) := by kernel_rfl
theorem infN : (Try.prog.info? 49).map (fun i => (i.zero, i.size, i.bytes)) = some (some (.agg #[.int .i64 0, .int .i64 0, .int .i64 0]), 3, 24) := by kernel_rfl
theorem infA : (Try.prog.info? 41).map (fun i => (i.zero, i.size, i.bytes)) = some (some (.agg #[.int .i64 0, .int .i64 0, .bool false]), 3, 24) := by kernel_rfl
theorem infF : (Try.prog.info? 47).map (fun i => (i.zero, i.size, i.bytes)) = some (some (.pointer none), 1, 8) := by kernel_rfl
theorem infS : (Try.prog.info? 39).map (fun i => (i.zero, i.size, i.bytes)) = some (some (.slice none 0 0), 1, 24) := by kernel_rfl
structure Fm where
  kd : Int
  now : Int
  um : List Int
  lp : Int
  it : Int
  sg : Int
  pa : List (Int × Int)
  ah : List (Int × Int)
  bg : Int
  le : List Int
structure Fx where
  F : Nat
  uv : Value
  pv : Value
  av : Value
  lv : Value
  f : Fm
def Fx.cs (x : Fx) : Array Value := #[.int .i64 x.f.kd, .int .i64 x.f.now, x.uv, .int .i64 x.f.lp, .int .i64 x.f.it, .int .i64 x.f.sg, x.pv, x.av, .int .i64 x.f.bg, x.lv]
/-- The rows of frame i. -/
structure FP (w : World) (r : Ro) (i : Nat) (x : Fx) : Prop where
  ro : r x.F = 8 + 4 * i
  um : RR 1 enI w r (9 + 4 * i) 3 x.uv x.f.um
  pa : RR 2 enP w r (10 + 4 * i) 77 x.pv x.f.pa
  le : RR 1 enI w r (11 + 4 * i) 3 x.lv x.f.le
  ah : RD 2 enP w r 6 x.av x.f.ah
structure FR (w : World) (r : Ro) (i : Nat) (x : Fx) : Prop where
  p : FP w r i x
  o : w.heap[x.F]? = some (.cells x.cs 52 (0, 0))
section
variable {P : Nat → Prop} {w w' : World} {r r' : Ro} {i : Nat} {x y : Fx}
theorem FP.keep (h : FP w r i x) (hk : KX P r r' w w') (h6 : ¬ P 6) (hi : ∀ c, 8 + 4 * i ≤ c → c < 12 + 4 * i → ¬ P c) (hF : x.F < w.heap.size) : FP w' r' i x :=
  ⟨(hk.k _ (hi _ (by omega) (by omega)) _ hF h.ro).1, h.um.keep hk (hi _ (by omega) (by omega)), h.pa.keep hk (hi _ (by omega) (by omega)), h.le.keep hk (hi _ (by omega) (by omega)), h.ah.keep hk h6⟩
theorem FR.keep (h : FR w r i x) (hk : KX P r r' w w') (h6 : ¬ P 6) (hi : ∀ c, 8 + 4 * i ≤ c → c < 12 + 4 * i → ¬ P c) : FR w' r' i x :=
  ⟨h.p.keep hk h6 hi (lt_of h.o), (hk.blk h.o h.p.ro (hi _ (by omega) (by omega))).1⟩
theorem FP.set (h : FP w r i x) (j : Nat) (v : Value) (ho : w.heap[x.F]? = some (.cells (Fx.cs y) 52 (0, 0))) (hF : y.F = x.F) (hc : (Fx.cs y).set! j v = x.cs) : FR (w.setCell ⟨x.F, j, none⟩ v) r i x ∧ KX (fun c => c = 8 + 4 * i) r r w (w.setCell ⟨x.F, j, none⟩ v) := by
  have hk : KX (fun c => c = 8 + 4 * i) r r w (w.setCell ⟨x.F, j, none⟩ v) := KX.set x.F j v h.ro
  refine ⟨⟨⟨h.ro, h.um.keep hk (by omega), h.pa.keep hk (by omega), h.le.keep hk (by omega), h.ah.keep hk (by omega)⟩, ?_⟩, hk⟩
  rw [set_blk _ _ _ _ ho, hc]
end
structure Bx where
  sv : Value
  pv : Value
  nv : Value
  av : Value
  S : List Fx
  us : List Sl
  P : List (List Int)
  N : List (Int × Int × Int)
  A : List (Int × Int × Bool)
def Bx.cs (x : Bx) : Array Value := #[x.sv, x.pv, x.nv, x.av]
structure SP (w0 w : World) (r : Ro) (b : Nat) (x : Bx) : Prop where
  ro : r b = 1
  st : RR 1 enF w r 2 47 x.sv (x.S.map Fx.F)
  pr : RR 1 enS w r 3 39 x.pv x.us
  no : RR 3 enN w r 4 49 x.nv x.N
  ac : RR 3 enA w r 5 41 x.av x.A
  pl : x.us.length = x.P.length
  pe : ∀ i u, x.us[i]? = some u → RD 1 enI w r 6 (sl u) (x.P.getD i [])
  fr : ∀ i y, x.S[i]? = some y → FR w r i y
  z : ∀ k, k < w0.heap.size → r k = 0
  b : Below w0.heap.size w0 w
structure SB (w0 w : World) (r : Ro) (b : Nat) (x : Bx) : Prop where
  p : SP w0 w r b x
  o : w.heap[b]? = some (.cells x.cs 55 (0, 0))
section
variable {P : Nat → Prop} {w0 w w' : World} {r r' : Ro} {b : Nat} {x x' : Bx}
theorem SP.keep (h : SP w0 w r b x) (hk : KX P r r' w w') (hp : ∀ c, c = 0 ∨ c = 2 ∨ c = 3 ∨ c = 4 ∨ c = 5 ∨ c = 6 ∨ 8 ≤ c → ¬ P c) (hb : r' b = 1) : SP w0 w' r' b x :=
  have hz := hk.bel (hp 0 (by omega)) h.z h.b.size
  ⟨hb, h.st.keep hk (hp _ (by omega)), h.pr.keep hk (hp _ (by omega)), h.no.keep hk (hp _ (by omega)), h.ac.keep hk (hp _ (by omega)), h.pl, fun i u hu => (h.pe i u hu).keep hk (hp _ (by omega)), fun i y hy => (h.fr i y hy).keep hk (hp _ (by omega)) (fun c h1 h2 => hp c (by omega)), hz.2, h.b.trans hz.1⟩
theorem SB.keep (h : SB w0 w r b x) (hk : KX P r r' w w') (hp : ∀ c, ¬ P c) : SB w0 w' r' b x :=
  ⟨h.p.keep hk (fun c _ => hp c) (hk.blk h.o h.p.ro (hp _)).2, (hk.blk h.o h.p.ro (hp _)).1⟩
theorem SB.below (h : SB w0 w r b x) (c : Nat) (hb : Below w.heap.size w w') : SB w0 w' (ext r w.heap.size c) b x ∧ KX (fun _ => False) r (ext r w.heap.size c) w w' :=
  ⟨h.keep (KX.below (fun _ => False) r c hb) (fun _ h => h), KX.below (fun _ => False) r c hb⟩
/-- A frame is another one. -/
theorem SB.frame (h : SB w0 w r b x) {i : Nat} {y y' : Fx} (hi : x.S[i]? = some y) (hF : y'.F = y.F) (hk : KX P r r' w w') (hp : ∀ c, P c → 8 + 4 * i ≤ c ∧ c < 12 + 4 * i) (hy : FR w' r' i y') : SB w0 w' r' b { x with S := x.S.set i y' } := by
  have hn : ∀ c, c < 8 → ¬ P c := fun c hc e => by have := hp c e; omega
  have hz := hk.bel (hn 0 (by omega)) h.p.z h.p.b.size
  have hb := hk.blk h.o h.p.ro (hn 1 (by omega))
  refine ⟨⟨hb.2, ?_, h.p.pr.keep hk (hn _ (by omega)), h.p.no.keep hk (hn _ (by omega)), h.p.ac.keep hk (hn _ (by omega)), h.p.pl, fun i u hu => (h.p.pe i u hu).keep hk (hn _ (by omega)), ?_, hz.2, h.p.b.trans hz.1⟩, hb.1⟩
  · have : (x.S.set i y').map Fx.F = x.S.map Fx.F := by
      rw [List.map_set, hF]
      apply List.ext_getElem?
      intro j
      by_cases e : i = j
      · subst e
        rw [List.getElem?_set_self (by simpa using (List.getElem?_eq_some_iff.1 hi).1), List.getElem?_map, hi]; rfl
      · rw [List.getElem?_set_ne e]
    rw [this]
    exact h.p.st.keep hk (hn _ (by omega))
  · intro j z hz2
    by_cases e : i = j
    · subst e
      rw [List.getElem?_set_self ((List.getElem?_eq_some_iff.1 hi).1)] at hz2
      cases hz2
      exact hy
    · rw [List.getElem?_set_ne e] at hz2
      exact (h.p.fr j z hz2).keep hk (hn _ (by omega)) (fun c h1 h2 e2 => by have := hp c e2; omega)
/-- The builder's object is stored into. -/
theorem SP.set (h : SP w0 w r b x) {x0 : Bx} (j : Nat) (v : Value) (ho : w.heap[b]? = some (.cells x0.cs 55 (0, 0))) (hc : x0.cs.set! j v = x.cs) : SB w0 (w.setCell ⟨b, j, none⟩ v) r b x ∧ KX (fun c => c = 1) r r w (w.setCell ⟨b, j, none⟩ v) := by
  have hk : KX (fun c => c = 1) r r w (w.setCell ⟨b, j, none⟩ v) := KX.set b j v h.ro
  exact ⟨⟨h.keep hk (fun c hc => by omega) h.ro, by rw [set_blk _ _ _ _ ho, hc]⟩, hk⟩
theorem SB.appP (h : SB w0 w r b x) {u : Sl} {ps : List Int} {v' : Value} (hu : RD 1 enI w r 6 (sl u) ps) (hg : w.grownBy w' x.pv.ownBlock) (ho : OR 1 enS w' 0 39 v' (x.us ++ [u])) (hor : v'.ownBlock = x.pv.ownBlock ∨ v'.ownBlock = some w.heap.size) :
    ∃ r', w'.heap[b]? = some (.cells x.cs 55 (0, 0)) ∧ SB w0 (w'.setCell ⟨b, 1, none⟩ v') r' b { x with pv := v', us := x.us ++ [u], P := x.P ++ [ps] } ∧ KX (fun c => c = 3 ∨ c = 1) r r' w (w'.setCell ⟨b, 1, none⟩ v') := by
  obtain ⟨hr, hk⟩ := h.p.pr.grown hg ho hor
  have hb := hk.blk h.o h.p.ro (by omega)
  have hz := hk.bel (by omega) h.p.z h.p.b.size
  have hp : SP w0 w' (ext r w.heap.size 3) b { x with pv := v', us := x.us ++ [u], P := x.P ++ [ps] } :=
    ⟨hb.2, h.p.st.keep hk (by omega), hr, h.p.no.keep hk (by omega), h.p.ac.keep hk (by omega), by simp [h.p.pl], fun i u' hu' => by
      by_cases e : i < x.us.length
      · rw [List.getElem?_append_left e] at hu'
        have := (h.p.pe i u' hu').keep hk (by omega)
        rw [List.getD_eq_getElem?_getD, List.getElem?_append_left (by rw [← h.p.pl]; exact e), ← List.getD_eq_getElem?_getD]
        exact this
      · have e2 : i = x.us.length := by have := (List.getElem?_eq_some_iff.1 hu').1; simp at this; omega
        subst e2
        rw [List.getElem?_append_right (Nat.le_refl _)] at hu'
        simp at hu'
        subst hu'
        rw [List.getD_eq_getElem?_getD, h.p.pl, List.getElem?_append_right (Nat.le_refl _)]
        simpa using hu.keep hk (by omega), fun i y hy => (h.p.fr i y hy).keep hk (by omega) (fun c h1 h2 => by omega), hz.2, h.p.b.trans hz.1⟩
  obtain ⟨h3, hk3⟩ := hp.set 1 v' hb.1 rfl
  exact ⟨_, hb.1, h3, hk.to hk3⟩
theorem SB.appN (h : SB w0 w r b x) {n : Int × Int × Int} {v' : Value} (hg : w.grownBy w' x.nv.ownBlock) (ho : OR 3 enN w' 0 49 v' (x.N ++ [n])) (hor : v'.ownBlock = x.nv.ownBlock ∨ v'.ownBlock = some w.heap.size) :
    ∃ r', w'.heap[b]? = some (.cells x.cs 55 (0, 0)) ∧ SB w0 (w'.setCell ⟨b, 2, none⟩ v') r' b { x with nv := v', N := x.N ++ [n] } ∧ KX (fun c => c = 4 ∨ c = 1) r r' w (w'.setCell ⟨b, 2, none⟩ v') := by
  obtain ⟨hr, hk⟩ := h.p.no.grown hg ho hor
  have hb := hk.blk h.o h.p.ro (by omega)
  have hz := hk.bel (by omega) h.p.z h.p.b.size
  have hp : SP w0 w' (ext r w.heap.size 4) b { x with nv := v', N := x.N ++ [n] } :=
    ⟨hb.2, h.p.st.keep hk (by omega), h.p.pr.keep hk (by omega), hr, h.p.ac.keep hk (by omega), h.p.pl, fun i u hu => (h.p.pe i u hu).keep hk (by omega), fun i y hy => (h.p.fr i y hy).keep hk (by omega) (fun c h1 h2 => by omega), hz.2, h.p.b.trans hz.1⟩
  obtain ⟨h3, hk3⟩ := hp.set 2 v' hb.1 rfl
  exact ⟨_, hb.1, h3, hk.to hk3⟩
theorem SB.appA (h : SB w0 w r b x) {n : Int × Int × Bool} {v' : Value} (hg : w.grownBy w' x.av.ownBlock) (ho : OR 3 enA w' 0 41 v' (x.A ++ [n])) (hor : v'.ownBlock = x.av.ownBlock ∨ v'.ownBlock = some w.heap.size) :
    ∃ r', w'.heap[b]? = some (.cells x.cs 55 (0, 0)) ∧ SB w0 (w'.setCell ⟨b, 3, none⟩ v') r' b { x with av := v', A := x.A ++ [n] } ∧ KX (fun c => c = 5 ∨ c = 1) r r' w (w'.setCell ⟨b, 3, none⟩ v') := by
  obtain ⟨hr, hk⟩ := h.p.ac.grown hg ho hor
  have hb := hk.blk h.o h.p.ro (by omega)
  have hz := hk.bel (by omega) h.p.z h.p.b.size
  have hp : SP w0 w' (ext r w.heap.size 5) b { x with av := v', A := x.A ++ [n] } :=
    ⟨hb.2, h.p.st.keep hk (by omega), h.p.pr.keep hk (by omega), h.p.no.keep hk (by omega), hr, h.p.pl, fun i u hu => (h.p.pe i u hu).keep hk (by omega), fun i y hy => (h.p.fr i y hy).keep hk (by omega) (fun c h1 h2 => by omega), hz.2, h.p.b.trans hz.1⟩
  obtain ⟨h3, hk3⟩ := hp.set 3 v' hb.1 rfl
  exact ⟨_, hb.1, h3, hk.to hk3⟩
/-- A frame is put upon the stack. -/
theorem SB.push (h : SB w0 w r b x) {y : Fx} {v' : Value} (hy : FR w r x.S.length y) (hg : w.grownBy w' x.sv.ownBlock) (ho : OR 1 enF w' 0 47 v' (x.S.map Fx.F ++ [y.F])) (hor : v'.ownBlock = x.sv.ownBlock ∨ v'.ownBlock = some w.heap.size) :
    ∃ r', w'.heap[b]? = some (.cells x.cs 55 (0, 0)) ∧ SB w0 (w'.setCell ⟨b, 0, none⟩ v') r' b { x with sv := v', S := x.S ++ [y] } ∧ KX (fun c => c = 2 ∨ c = 1) r r' w (w'.setCell ⟨b, 0, none⟩ v') := by
  obtain ⟨hr, hk⟩ := h.p.st.grown hg ho hor
  have hb := hk.blk h.o h.p.ro (by omega)
  have hz := hk.bel (by omega) h.p.z h.p.b.size
  have hp : SP w0 w' (ext r w.heap.size 2) b { x with sv := v', S := x.S ++ [y] } :=
    ⟨hb.2, by simpa using hr, h.p.pr.keep hk (by omega), h.p.no.keep hk (by omega), h.p.ac.keep hk (by omega), h.p.pl, fun i u hu => (h.p.pe i u hu).keep hk (by omega), fun i z hz => by
      by_cases e : i < x.S.length
      · rw [List.getElem?_append_left e] at hz
        exact (h.p.fr i z hz).keep hk (by omega) (fun c h1 h2 => by omega)
      · have e2 : i = x.S.length := by have := (List.getElem?_eq_some_iff.1 hz).1; simp at this; omega
        subst e2
        rw [List.getElem?_append_right (Nat.le_refl _)] at hz
        simp at hz
        subst hz
        exact hy.keep hk (by omega) (fun c h1 h2 => by omega), hz.2, h.p.b.trans hz.1⟩
  obtain ⟨h3, hk3⟩ := hp.set 0 v' hb.1 rfl
  exact ⟨_, hb.1, h3, hk.to hk3⟩
/-- .. and taken off. -/
theorem SB.pop (h : SB w0 w r b x) {y : Fx} {T : List Fx} {a : Option Addr} {n c : Nat} (hx : x.sv = .slice a n c) (hS : x.S = T ++ [y]) : SB w0 (w.setCell ⟨b, 0, none⟩ (.slice a T.length c)) r b { x with sv := .slice a T.length c, S := T } ∧ KX (fun c => c = 1) r r w (w.setCell ⟨b, 0, none⟩ (.slice a T.length c)) := by
  have hst := h.p.st
  rw [hx, hS, List.map_append] at hst
  have hp : SP w0 w r b { x with sv := .slice a T.length c, S := T } :=
    ⟨h.p.ro, ⟨by have := OR.cut recF hst.o; simpa using this, fun g hg => hst.r g (by cases a with | none => simp [Value.ownBlock] at hg | some a => exact hg)⟩, h.p.pr, h.p.no, h.p.ac, h.p.pl, h.p.pe, fun i z hz => h.p.fr i z (by rw [hS, List.getElem?_append_left (List.getElem?_eq_some_iff.1 hz).1]; exact hz), h.p.z, h.p.b⟩
  exact hp.set 0 _ h.o rfl
end
end Go.Proofs.Ytgbaaemocnjaoaa.sn
