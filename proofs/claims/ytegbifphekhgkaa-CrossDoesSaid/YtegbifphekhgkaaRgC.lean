/- The boxes in which a step of the document's walk of layer 19 holds its walk. -/
import Derived.Test.YtegbifphekhgkaaRgB
namespace Go.Proofs.Ytegbifphekhgkaa.cg
open Go.ChangeShapes Go.WideShapes Go.ChangeAt Go.RowKit
attribute [local go_sem ↓] Go.wp_at_zero Go.wp_at_succ
set_option linter.unusedVariables false
set_option linter.unusedSimpArgs false
structure BX (w : World) (P : Nat) (r : Rw) : Prop where
  p : w.heap[P]? = some (.cells #[.int .i64 1, .int .i64 3, .int .i64 3, .int .i64 3] 61 (0, 0))
  r : w.heap[P + 1]? = some (.cells r.cs 74 (0, 0))
  z : w.heap[P + 1 + 1]? = some (.cells #[.bool false, .int .i64 0, .int .i64 0, .int .i64 0, .int .i64 0, .int .i64 0, .int .i64 0, .int .i64 0, .bool false] 74 (0, 0))
section
variable {w w' : World} {P : Nat} {r : Rw}
theorem BX.below (h : BX w P r) (hb : Below w.heap.size w w') : BX w' P r :=
  ⟨(hb.block _ (lt_of_heap h.p)).trans h.p, (hb.block _ (lt_of_heap h.r)).trans h.r, (hb.block _ (lt_of_heap h.z)).trans h.z⟩
theorem BX.lt (h : BX w P r) : P + 1 + 1 < w.heap.size := lt_of_heap h.z
theorem BX.rd (h : BX w P r) : w.cell? ⟨P, 0, none⟩ = some (.int .i64 1) ∧ w.cell? ⟨P, 1, none⟩ = some (.int .i64 3) ∧ w.cell? ⟨P, 2, none⟩ = some (.int .i64 3) ∧ w.cell? ⟨P, 3, none⟩ = some (.int .i64 3) ∧ w.cell? ⟨P + 1, 0, none⟩ = some (.bool r.pk) ∧ w.cell? ⟨P + 1, 1, none⟩ = some (.int .i64 2) ∧ w.cell? ⟨P + 1, 2, none⟩ = some (.int .i64 r.sr) ∧ w.cell? ⟨P + 1, 3, none⟩ = some (.int .i64 r.it) ∧ w.cell? ⟨P + 1, 4, none⟩ = some (.int .i64 r.n) ∧ w.cell? ⟨P + 1, 5, none⟩ = some (.int .i64 r.at_) ∧ w.cell? ⟨P + 1, 6, none⟩ = some (.int .i64 r.st) ∧ w.cell? ⟨P + 1, 7, none⟩ = some (.int .i64 r.fr) ∧ w.cell? ⟨P + 1, 8, none⟩ = some (.bool r.gt) :=
  ⟨ro.cel h.p 0, ro.cel h.p 1, ro.cel h.p 2, ro.cel h.p 3, ro.cel h.r 0, ro.cel h.r 1, ro.cel h.r 2, ro.cel h.r 3, ro.cel h.r 4, ro.cel h.r 5, ro.cel h.r 6, ro.cel h.r 7, ro.cel h.r 8⟩
theorem BX.zs (h : BX w P r) : w.cell? ⟨P + 1 + 1, 0, none⟩ = some (.bool false) ∧ w.cell? ⟨P + 1 + 1, 1, none⟩ = some (.int .i64 0) ∧ w.cell? ⟨P + 1 + 1, 2, none⟩ = some (.int .i64 0) ∧ w.cell? ⟨P + 1 + 1, 3, none⟩ = some (.int .i64 0) ∧ w.cell? ⟨P + 1 + 1, 4, none⟩ = some (.int .i64 0) ∧ w.cell? ⟨P + 1 + 1, 5, none⟩ = some (.int .i64 0) ∧ w.cell? ⟨P + 1 + 1, 6, none⟩ = some (.int .i64 0) ∧ w.cell? ⟨P + 1 + 1, 7, none⟩ = some (.int .i64 0) ∧ w.cell? ⟨P + 1 + 1, 8, none⟩ = some (.bool false) :=
  ⟨ro.cel h.z 0, ro.cel h.z 1, ro.cel h.z 2, ro.cel h.z 3, ro.cel h.z 4, ro.cel h.z 5, ro.cel h.z 6, ro.cel h.z 7, ro.cel h.z 8⟩
theorem BX.fr (h : BX w P r) (i : Nat) : w.frozen? ⟨P + 1, i, none⟩ = false := ro.frz h.r i
theorem BX.fz (h : BX w P r) (i : Nat) : w.frozen? ⟨P + 1 + 1, i, none⟩ = false := ro.frz h.z i
theorem BX.set (h : BX w P r) (i : Nat) (v : Value) (r' : Rw) (hr : r.cs.set! i v = r'.cs) : BX (w.setCell ⟨P + 1, i, none⟩ v) P r' :=
  ⟨(ro.set_oth w (P + 1) i P v (by omega)).trans h.p, by rw [ro.set_blk w (P + 1) i v h.r, hr], (ro.set_oth w (P + 1) i (P + 1 + 1) v (by omega)).trans h.z⟩
end
theorem BX.new (w : World) (r : Rw) {W : World} (hW : ((w.alloc (Obj.cells #[Value.int .i64 1, .int .i64 3, .int .i64 3, .int .i64 3] 61)).alloc (Obj.cells r.cs 74)).alloc (Obj.cells #[.bool false, .int .i64 0, .int .i64 0, .int .i64 0, .int .i64 0, .int .i64 0, .int .i64 0, .int .i64 0, .bool false] 74) = W) : BX W w.heap.size r ∧ Below w.heap.size w W := by
  rw [← hW]
  refine ⟨⟨?_, ?_, ?_⟩, by go_grown⟩
  · show (((w.heap.push _).push _).push _)[w.heap.size]? = _
    rw [Array.getElem?_push, Array.getElem?_push, Array.getElem?_push]
    simp
    omega
  · show (((w.heap.push _).push _).push _)[w.heap.size + 1]? = _
    rw [Array.getElem?_push, Array.getElem?_push]
    simp
  · show (((w.heap.push _).push _).push _)[w.heap.size + 1 + 1]? = _
    rw [Array.getElem?_push]
    simp
def put9 (w : World) (M : Nat) (v0 v1 v2 v3 v4 v5 v6 v7 v8 : Value) : World := ((((((((w.setCell ⟨M, 0, none⟩ v0).setCell ⟨M, 1, none⟩ v1).setCell ⟨M, 2, none⟩ v2).setCell ⟨M, 3, none⟩ v3).setCell ⟨M, 4, none⟩ v4).setCell ⟨M, 5, none⟩ v5).setCell ⟨M, 6, none⟩ v6).setCell ⟨M, 7, none⟩ v7).setCell ⟨M, 8, none⟩ v8
theorem put9_at {w : World} {M : Nat} {t : TypeId} {u0 u1 u2 u3 u4 u5 u6 u7 u8 : Value} (v0 v1 v2 v3 v4 v5 v6 v7 v8 : Value) (h : w.heap[M]? = some (.cells #[u0, u1, u2, u3, u4, u5, u6, u7, u8] t (0, 0))) :
    (put9 w M v0 v1 v2 v3 v4 v5 v6 v7 v8).heap[M]? = some (.cells #[v0, v1, v2, v3, v4, v5, v6, v7, v8] t (0, 0)) ∧ (∀ k, k ≠ M → (put9 w M v0 v1 v2 v3 v4 v5 v6 v7 v8).heap[k]? = w.heap[k]?) ∧ ∀ B, B ≤ M → Below B w (put9 w M v0 v1 v2 v3 v4 v5 v6 v7 v8) := by
  refine ⟨?_, fun k hk => ?_, fun B hB => ?_⟩
  · have a0 : (w.setCell ⟨M, 0, none⟩ v0).heap[M]? = some (.cells #[v0, u1, u2, u3, u4, u5, u6, u7, u8] t (0, 0)) := ro.set_blk w M 0 v0 h
    have a1 : ((w.setCell ⟨M, 0, none⟩ v0).setCell ⟨M, 1, none⟩ v1).heap[M]? = some (.cells #[v0, v1, u2, u3, u4, u5, u6, u7, u8] t (0, 0)) := ro.set_blk (w.setCell ⟨M, 0, none⟩ v0) M 1 v1 a0
    have a2 : (((w.setCell ⟨M, 0, none⟩ v0).setCell ⟨M, 1, none⟩ v1).setCell ⟨M, 2, none⟩ v2).heap[M]? = some (.cells #[v0, v1, v2, u3, u4, u5, u6, u7, u8] t (0, 0)) := ro.set_blk ((w.setCell ⟨M, 0, none⟩ v0).setCell ⟨M, 1, none⟩ v1) M 2 v2 a1
    have a3 : ((((w.setCell ⟨M, 0, none⟩ v0).setCell ⟨M, 1, none⟩ v1).setCell ⟨M, 2, none⟩ v2).setCell ⟨M, 3, none⟩ v3).heap[M]? = some (.cells #[v0, v1, v2, v3, u4, u5, u6, u7, u8] t (0, 0)) := ro.set_blk (((w.setCell ⟨M, 0, none⟩ v0).setCell ⟨M, 1, none⟩ v1).setCell ⟨M, 2, none⟩ v2) M 3 v3 a2
    have a4 : (((((w.setCell ⟨M, 0, none⟩ v0).setCell ⟨M, 1, none⟩ v1).setCell ⟨M, 2, none⟩ v2).setCell ⟨M, 3, none⟩ v3).setCell ⟨M, 4, none⟩ v4).heap[M]? = some (.cells #[v0, v1, v2, v3, v4, u5, u6, u7, u8] t (0, 0)) := ro.set_blk ((((w.setCell ⟨M, 0, none⟩ v0).setCell ⟨M, 1, none⟩ v1).setCell ⟨M, 2, none⟩ v2).setCell ⟨M, 3, none⟩ v3) M 4 v4 a3
    have a5 : ((((((w.setCell ⟨M, 0, none⟩ v0).setCell ⟨M, 1, none⟩ v1).setCell ⟨M, 2, none⟩ v2).setCell ⟨M, 3, none⟩ v3).setCell ⟨M, 4, none⟩ v4).setCell ⟨M, 5, none⟩ v5).heap[M]? = some (.cells #[v0, v1, v2, v3, v4, v5, u6, u7, u8] t (0, 0)) := ro.set_blk (((((w.setCell ⟨M, 0, none⟩ v0).setCell ⟨M, 1, none⟩ v1).setCell ⟨M, 2, none⟩ v2).setCell ⟨M, 3, none⟩ v3).setCell ⟨M, 4, none⟩ v4) M 5 v5 a4
    have a6 : (((((((w.setCell ⟨M, 0, none⟩ v0).setCell ⟨M, 1, none⟩ v1).setCell ⟨M, 2, none⟩ v2).setCell ⟨M, 3, none⟩ v3).setCell ⟨M, 4, none⟩ v4).setCell ⟨M, 5, none⟩ v5).setCell ⟨M, 6, none⟩ v6).heap[M]? = some (.cells #[v0, v1, v2, v3, v4, v5, v6, u7, u8] t (0, 0)) := ro.set_blk ((((((w.setCell ⟨M, 0, none⟩ v0).setCell ⟨M, 1, none⟩ v1).setCell ⟨M, 2, none⟩ v2).setCell ⟨M, 3, none⟩ v3).setCell ⟨M, 4, none⟩ v4).setCell ⟨M, 5, none⟩ v5) M 6 v6 a5
    have a7 : ((((((((w.setCell ⟨M, 0, none⟩ v0).setCell ⟨M, 1, none⟩ v1).setCell ⟨M, 2, none⟩ v2).setCell ⟨M, 3, none⟩ v3).setCell ⟨M, 4, none⟩ v4).setCell ⟨M, 5, none⟩ v5).setCell ⟨M, 6, none⟩ v6).setCell ⟨M, 7, none⟩ v7).heap[M]? = some (.cells #[v0, v1, v2, v3, v4, v5, v6, v7, u8] t (0, 0)) := ro.set_blk (((((((w.setCell ⟨M, 0, none⟩ v0).setCell ⟨M, 1, none⟩ v1).setCell ⟨M, 2, none⟩ v2).setCell ⟨M, 3, none⟩ v3).setCell ⟨M, 4, none⟩ v4).setCell ⟨M, 5, none⟩ v5).setCell ⟨M, 6, none⟩ v6) M 7 v7 a6
    have a8 : (((((((((w.setCell ⟨M, 0, none⟩ v0).setCell ⟨M, 1, none⟩ v1).setCell ⟨M, 2, none⟩ v2).setCell ⟨M, 3, none⟩ v3).setCell ⟨M, 4, none⟩ v4).setCell ⟨M, 5, none⟩ v5).setCell ⟨M, 6, none⟩ v6).setCell ⟨M, 7, none⟩ v7).setCell ⟨M, 8, none⟩ v8).heap[M]? = some (.cells #[v0, v1, v2, v3, v4, v5, v6, v7, v8] t (0, 0)) := ro.set_blk ((((((((w.setCell ⟨M, 0, none⟩ v0).setCell ⟨M, 1, none⟩ v1).setCell ⟨M, 2, none⟩ v2).setCell ⟨M, 3, none⟩ v3).setCell ⟨M, 4, none⟩ v4).setCell ⟨M, 5, none⟩ v5).setCell ⟨M, 6, none⟩ v6).setCell ⟨M, 7, none⟩ v7) M 8 v8 a7
    exact a8
  · unfold put9
    simp only [ro.set_oth _ _ _ _ _ hk]
  · unfold put9
    exact ((((((((((Below.refl _ w).setCell (p := ⟨M, 0, none⟩) hB _).setCell (p := ⟨M, 1, none⟩) hB _).setCell (p := ⟨M, 2, none⟩) hB _).setCell (p := ⟨M, 3, none⟩) hB _).setCell (p := ⟨M, 4, none⟩) hB _).setCell (p := ⟨M, 5, none⟩) hB _).setCell (p := ⟨M, 6, none⟩) hB _).setCell (p := ⟨M, 7, none⟩) hB _).setCell (p := ⟨M, 8, none⟩) hB _)
def RPost19 (B N : Nat) (old : Value) (w : World) (r' : Rw) (xs' : List Int) (e : Ending) (w' : World) : Prop :=
  ∃ ad cp, e = .returned (.tuple #[.agg r'.cs, .slice ad N cp]) ∧ OI w' B (.slice ad N cp) xs' ∧ Below w.heap.size w w' ∧ ∀ q, (Value.slice ad N cp).ownBlock = some q → w.heap.size ≤ q ∨ old.ownBlock = some q
/-- the word's step, in any world that has grown. -/
theorem doC {w : World} {B N k : Nat} {ad : Option Addr} {cp : Nat} {xs : List Int} (r : Rw) (kd wh it n q a b x : Int) (ho : OI w B (.slice ad N cp) xs) (hB : B ≤ w.heap.size) (hkd : kd = 0 ∧ wh = 0 ∨ kd = 1 ∧ wh = 0 ∨ kd = 2 ∧ wh = 1 ∨ kd = 3 ∧ wh = 1 ∨ kd = 4 ∧ wh = 1 ∨ kd = 5 ∧ wh = 2 ∨ kd = 6 ∧ wh = 2) (hq : HQ 3 it q) (hk : Hid (25 + 2 + q * 4 + wh = (k : Int))) (hN : xs.length = N) (hkN : k < N) (hsm : N ≤ 100000) (hx : Hid (xs.getD k 0 = x)) (hd : doV x r.sr kd it n = (a, b)) :
    Hid (∀ W, Below w.heap.size w W → Calls Try.prog 62 #[.agg #[.int .i64 1, .int .i64 3, .int .i64 3, .int .i64 3], .agg r.cs, .slice ad N cp, .agg #[.int .i64 kd, .int .i64 it, .int .i64 n]] W fun e w' => ∃ g cp', e = .returned (.tuple #[.int .i64 a, .slice (some ⟨g, 0, none⟩) N cp']) ∧ Hid (OI w' B (.slice (some ⟨g, 0, none⟩) N cp') (xs.set k b) ∧ W.heap.size ≤ g) ∧ Below W.heap.size W w') :=
  Lib.hid fun W hb => (rdo19 r kd wh it n q a b x k N _ xs W hkd hq hk hN hkN hsm hx hd (view_of_own (OI.below ho hb))).mono fun e w' ⟨g, cp', h1, h2, h3, h4⟩ => ⟨g, cp', h1, Lib.hid ⟨OI.base h2 (Nat.le_trans hB hb.size), h4⟩, h3⟩
end Go.Proofs.Ytegbifphekhgkaa.cg
