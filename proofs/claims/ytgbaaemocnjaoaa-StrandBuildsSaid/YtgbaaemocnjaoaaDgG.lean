/- The document's builder: what each store turns of a frame (layer 30). -/
import Derived.Test.YtgbaaemocnjaoaaDgD
namespace Go.Proofs.Ytgbaaemocnjaoaa.dg
open Go.ChangeShapes Go.WideShapes Go.ChangeAt Go.RowKit
open Go.Proofs.Ytgbaaemocnjaoaa.ro Go.Proofs.Ytgbaaemocnjaoaa.sn
attribute [local go_sem ↓] Go.wp_at_zero Go.wp_at_succ
set_option linter.unusedVariables false
set_option linter.unusedSimpArgs false
section
variable {P : Nat → Prop} {w0 w wr w2 : World} {r r1 r2 : Ro} {b β nb : Nat} {lv vah vr vl va v' : Value} {x x2 : Dx} {f l : Fm}
theorem DB.role (h : DB w0 wr r1 b lv x) (c d : Nat) (hc : 8 ≤ c) : DB w0 wr (fun k => if r1 k = c then d else r1 k) b lv x :=
  h.keep (KX.turn r1 c d wr) (fun e he e2 => by omega)
/-- the row is what is answered. -/
theorem FH.ret (h : FH w0 w wr r r1 b lv β nb vah x f vr vl) (hβ : 8 ≤ β) {ys : List (Int × Int)} (hg : wr.grownBy w2 vr.ownBlock) (ho : OR 2 enP w2 0 73 v' ys) (hor : v'.ownBlock = vr.ownBlock ∨ v'.ownBlock = some wr.heap.size) :
    ∃ r', DB w0 w2 r' b lv x ∧ KX (PB β) r r' w w2 ∧ RD 2 enP w2 r' 6 v' ys := by
  obtain ⟨hr, hk⟩ := h.row.grown hg ho hor
  have hD := h.db.keep hk (fun c hc e => by omega)
  exact ⟨_, hD.role (β + 1) 6 (by omega), (h.kx.trans (hk.mono fun c hc => by subst hc; unfold PB; omega)).trans ((KX.turn _ (β + 1) 6 w2).mono fun c hc => by subst hc; unfold PB; omega), hr.turn recP 6⟩
theorem FH.appRow (h : FH w0 w wr r r1 b lv β nb vah x f vr vl) (hβ : 8 ≤ β) (h3 : f.kd = 3) {p : Int × Int} (hg : wr.grownBy w2 vr.ownBlock) (ho : OR 2 enP w2 0 73 v' (f.pa ++ [p])) (hor : v'.ownBlock = vr.ownBlock ∨ v'.ownBlock = some wr.heap.size) :
    ∃ r', FH w0 w w2 r r' b lv β nb vah x { f with pa := f.pa ++ [p] } v' vl ∧ KX (fun c => c = β + 1) r1 r' wr w2 := by
  obtain ⟨hr, hk⟩ := h.row.grown hg ho hor
  have hD := h.db.keep hk (fun c hc e => by omega)
  have hb := hk.blk h.bo h.br (by omega)
  exact ⟨_, ⟨hD, h.kx.trans (hk.mono fun c hc => by subst hc; unfold PB; omega), hr, h.left.keep hk (by omega), hb.1, hb.2, h.ah.keep hk (by omega), h.no, fun e => absurd h3 e⟩, hk⟩
theorem FH.appLeft (h : FH w0 w wr r r1 b lv β nb vah x f vr vl) (hβ : 8 ≤ β) {p : Int} (hg : wr.grownBy w2 vl.ownBlock) (ho : OR 1 enI w2 0 3 v' (f.um ++ [p])) (hor : v'.ownBlock = vl.ownBlock ∨ v'.ownBlock = some wr.heap.size) :
    ∃ r', FH w0 w w2 r r' b lv β nb vah x { f with um := f.um ++ [p] } vr v' ∧ KX (fun c => c = β) r1 r' wr w2 := by
  obtain ⟨hr, hk⟩ := h.left.grown hg ho hor
  have hD := h.db.keep hk (fun c hc e => by omega)
  have hb := hk.blk h.bo h.br (by omega)
  exact ⟨_, ⟨hD, h.kx.trans (hk.mono fun c hc => by subst hc; unfold PB; omega), h.row.keep hk (by omega), hr, hb.1, hb.2, h.ah.keep hk (by omega), h.no, h.p0⟩, hk⟩
theorem FH.setSg (h : FH w0 w wr r r1 b lv β nb vah x f vr vl) (hβ : 8 ≤ β) (h3 : f.kd = 3) (a : Int) :
    FH w0 w (wr.setCell ⟨nb, 2, none⟩ (.int .i64 a)) r r1 b lv β nb vah x { f with sg := a } vr vl ∧ KX (fun c => c = β + 3) r1 r1 wr (wr.setCell ⟨nb, 2, none⟩ (.int .i64 a)) := by
  have hk : KX (fun c => c = β + 3) r1 r1 wr (wr.setCell ⟨nb, 2, none⟩ (.int .i64 a)) := KX.set nb 2 _ h.br
  have hD := h.db.keep hk (fun c hc e => by omega)
  refine ⟨⟨hD, h.kx.trans (hk.mono fun c hc => by subst hc; unfold PB; omega), h.row.keep hk (by omega), h.left.keep hk (by omega), ?_, h.br, h.ah.keep hk (by omega), ?_, fun e => absurd h3 e⟩, hk⟩
  · rw [set_blk _ _ _ _ h.bo]; rfl
  · show nodeOf { f with sg := a } = (f.lp, f.it, a)
    unfold nodeOf
    exact if_pos h3
/-- another present strand, other children. -/
theorem FH.now (h : FH w0 w wr r r1 b lv β nb vah x f vr vl) (nw : Int) : FH w0 w wr r r1 b lv β nb vah x { f with now := nw } vr vl := ⟨h.db, h.kx, h.row, h.left, h.bo, h.br, h.ah, h.no, h.p0⟩
theorem FH.um0 (h : FH w0 w wr r r1 b lv β nb vah x f vr vl) : FH w0 w wr r r1 b lv β nb vah x { f with um := [] } vr (.slice none 0 0) := ⟨h.db, h.kx, h.row, RR.nil _ _ _ _, h.bo, h.br, h.ah, h.no, h.p0⟩
theorem LH.appLe (h : LH w0 w wr r r1 b lv β x l vl va) (hβ : 8 ≤ β) {p : Int} (hg : wr.grownBy w2 vl.ownBlock) (ho : OR 1 enI w2 0 3 v' (l.le ++ [p])) (hor : v'.ownBlock = vl.ownBlock ∨ v'.ownBlock = some wr.heap.size) :
    ∃ r', LH w0 w w2 r r' b lv β x { l with le := l.le ++ [p] } v' va ∧ KX (fun c => c = β) r1 r' wr w2 := by
  obtain ⟨hr, hk⟩ := h.left.grown hg ho hor
  have hD := h.db.keep hk (fun c hc e => by omega)
  exact ⟨_, ⟨hD, h.kx.trans (hk.mono fun c hc => by subst hc; unfold PB; omega), hr, h.ah.keep hk (by omega)⟩, hk⟩
theorem LH.ret (h : LH w0 w wr r r1 b lv β x l vl va) (hβ : 8 ≤ β) : ∃ r', DB w0 wr r' b lv x ∧ KX (PB β) r r' w wr ∧ RD 1 enI wr r' 6 vl l.le :=
  ⟨_, h.db.role β 6 hβ, h.kx.trans ((KX.turn r1 β 6 wr).mono fun c hc => by subst hc; unfold PB; omega), h.left.turn recI 6⟩
end
/-- what comes of a strand that would begin. -/
def BegX (x x' : Dx) (n : Int × Int × Int) (ps : List Int) (v : Int) : Prop :=
  (x.P.length = 1000 ∧ x' = { x with er := 9, ov := true }) ∨ (¬ x.P.length = 1000 ∧ v = (x.P.length : Int) ∧ ∃ pv nv us, x' = { x with pv := pv, nv := nv, us := us, P := x.P ++ [ps], N := x.N ++ [n] })
theorem begin_of (w0 w : World) (r : Ro) (b : Nat) (lv : Value) (x : Dx) (n : Int × Int × Int) (u : Sl) (ps : List Int) (h : DB w0 w r b lv x) (hu : RD 1 enI w r 6 (sl u) ps) (h1 : x.P.length ≤ 100000) (h2 : x.N.length ≤ 100000) :
    Calls Try.prog 16 #[.pointer (some ⟨b, 0, none⟩), .agg #[.int .i64 n.1, .int .i64 n.2.1, .int .i64 n.2.2], sl u] w fun e w' => ∃ v r' x', e = .returned (.int .i64 v) ∧ DB w0 w' r' b lv x' ∧ KX (fun c => c = 1 ∨ c = 3 ∨ c = 4) r r' w w' ∧ BegX x x' n ps v := by
  by_cases hl : x.P.length = 1000
  · refine (begin_full w0 w r b lv x n u h hl).mono ?_
    rintro e w' ⟨rfl, r', hD, hk⟩
    exact ⟨0, r', _, rfl, hD, hk.mono fun c hc => .inl hc, .inl ⟨hl, rfl⟩⟩
  · refine (begin_yes w0 w r b lv x n u ps h hu hl h1 h2).mono ?_
    rintro e w' ⟨rfl, r', pv, nv, us, hD, hk⟩
    exact ⟨_, r', _, rfl, hD, hk, .inr ⟨hl, rfl, pv, nv, us, rfl⟩⟩
section
variable {L : List Mk} {x : Dx} {S T : List Fm} {f : Fm}
theorem At.p (h : At L x S) : x.P.length ≤ 1000 := h.inv.pm
theorem At.n (h : At L x S) : x.N.length ≤ 1000 := by have := h.inv.pn; have := h.inv.pm; show x.N.length ≤ 1000; simp only at *; omega
theorem At.a (h : At L x S) : x.A.length ≤ L.length := Nat.le_trans h.inv.al h.le
theorem At.um (h : At L x (T ++ [f])) : f.um.length ≤ L.length ∧ f.pa.length ≤ L.length ∧ f.ah.length ≤ L.length ∧ f.le.length ≤ L.length := by
  have := h.inv.rg f (by simp)
  have h2 := h.le
  exact ⟨Nat.le_trans this.l1 h2, Nat.le_trans this.l2 h2, Nat.le_trans this.l3 h2, Nat.le_trans this.l4 h2⟩
end
end Go.Proofs.Ytgbaaemocnjaoaa.dg
