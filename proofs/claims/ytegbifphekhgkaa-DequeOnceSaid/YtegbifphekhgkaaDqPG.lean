/- The play of DequeOnce: how it begins (layer 13). -/
import Derived.Test.YtegbifphekhgkaaDqPE
import Derived.Test.YtegbifphekhgkaaDqPF
namespace Go.Proofs.Ytegbifphekhgkaa.dqo
open Go.Proofs.Ytegbifphekhgkaa.ro (Ro KX ext)
open Go.Proofs.Ytegbifphekhgkaa.DO
open Go.ChangeShapes Go.WideShapes Go.ChangeAt Go.RowKit

attribute [local go_sem ↓] Go.wp_at_zero Go.wp_at_succ
set_option linter.unusedVariables false
set_option linter.unusedSimpArgs false
theorem run_make_cells1 (P : Program) (t e : TypeId) (z : Value) (size bytes : Nat) (ht : P.underlying t = some (.slice e)) (hinfo : (P.info? e).map (fun i => (i.zero, i.size, i.bytes)) = some (some z, size, bytes))
    (kl kc : IntKind) (n : Nat) (hbytes : bytes * n ≤ 281474976710656) (h63 : n ≤ 9223372036854775807) (w : World) :
    (Instr.makeSlice t (.int kl (n : Int)) (.int kc (n : Int))).run P w = .ok (.slice (some ⟨w.heap.size, 0, none⟩) n n) (w.alloc (.cells (madeCells z.cells (n * size)) e)) := by
  obtain ⟨i, hi, hzz⟩ := Option.map_eq_some_iff.1 hinfo
  simp only [Prod.mk.injEq] at hzz
  obtain ⟨hz, hs, hb⟩ := hzz
  have hb' : (i.bytes : Int) * (n : Int) ≤ 281474976710656 := by
    have h : ((i.bytes * n : Nat) : Int) ≤ 281474976710656 := by rw [hb]; omega
    rwa [Int.natCast_mul] at h
  have hr := run_make (P := P) w t e i z ht hi hz kl kc n n (by omega) (Int.le_refl _) hb' (by omega)
  simp only [Int.toNat_natCast, hs] at hr
  exact hr
theorem made_one1 (a : Value) (n : Nat) : madeCells #[a] n = (List.replicate n a).toArray := by
  apply Array.ext
  · simp [size_madeCells]
  · intro i h1 h2
    simp [madeCells, Nat.mod_one]
/-- the play as it begins. -/
theorem start {w w3 w7 : World} {Pl S g M D P n len : Nat} (hD2 : 2 ≤ D) (hD8 : D ≤ 8) (hP : 4 + D = P) (hn : 2 * (4 + D) + 10 = n) (hl : len ≤ 300) (hb : Below w.heap.size w w3) (hst : StoreAt w3 S g (List.replicate n 0)) (hg0 : w.heap.size ≤ g) (hp0 : w.heap.size ≤ Pl) (hpg : Pl < g) (hgS : g < S) (hSw : S < w3.heap.size) (hM : w3.heap.size = M) (hp : w3.heap[Pl]? = some (.cells #[.int .i64 2, .int .i64 1, .int .i64 1, .int .i64 (D : Int)] 25 (0, 0)))
    (hb7 : Below w3.heap.size w3 w7) (hW : w7.heap[M]? = some (.cells (madeCells #[.pointer none] 4) 35 (0, 0))) (hO : w7.heap[M + 1]? = some (.cells #[.slice none 0 0, .slice none 0 0, .slice none 0 0, .slice none 0 0, .bool true] 52 (0, 0))) :
    LI w w7 Pl S g M (M + 1) P D n 0 len 0 1 false := by
  have hm1 : madeCells #[Value.pointer none] 4 = #[ptrV none, ptrV none, ptrV none, ptrV none] := by rw [made_one1]; rfl
  rw [hm1] at hW
  rw [hM] at hSw hb7
  have hlt := lt_of_heap hO
  have hidle : ∀ k : Nat, (((fun _ => ⟨.idle, 0, 0, 0, 0, 0, false, false⟩) : Nat → Ag) k).pc = .idle := fun _ => rfl
  have hI : Inv D ⟨0, 0, 0, 0, fun _ => 0⟩ (fun _ => ⟨.idle, 0, 0, 0, 0, 0, false, false⟩) ⟨0, 0, 0, fun _ => 0, 1, false, [], [], [], []⟩ := inv_begin D hD2 ⟨0, 0, 0, 0, fun _ => 0⟩ rfl rfl rfl rfl _ hidle _
  refine ⟨fun b => if b < w.heap.size then 0 else if b = Pl then 1 else if b = M then 2 else if b = M + 1 then 3 else if b = g then 5 else if b = S then 6 else 9, fun _ => ⟨.idle, 0, 0, 0, 0, 0, false, false⟩, fun _ => none, fun _ => .slice none 0 0, fun _ => [], List.replicate n 0, ⟨0, 0, 0, 0, fun _ => 0⟩, ⟨0, 0, 0, fun _ => 0, 1, false, [], [], [], []⟩, ⟨fun k hk => if_pos hk, btr hb (by rw [hM]; exact hb7), hst.below (by rw [hM]; exact hb7), hg0, ?_, ?_, (hb7.block Pl (by omega)).trans hp, ?_, hW, ?_, hO, ?_, ?_, fun k _ _ => Or.inl ⟨rfl, rfl⟩, by simp⟩, dq0 P D n (by omega), hI, by simp, by simp, by simp, rfl, rfl, rfl, rfl, rfl, rfl, rfl, fun h => ?_⟩
  · show (if _ then _ else _) = _
    rw [if_neg (by omega), if_neg (by omega), if_neg (by omega), if_neg (by omega), if_neg (by omega), if_pos rfl]
  · show (if _ then _ else _) = _
    rw [if_neg (by omega), if_neg (by omega), if_neg (by omega), if_neg (by omega), if_pos rfl]
  · show (if _ then _ else _) = _
    rw [if_neg (by omega), if_pos rfl]
  · show (if _ then _ else _) = _
    rw [if_neg (by omega), if_neg (by omega), if_pos rfl]
  · show (if _ then _ else _) = _
    rw [if_neg (by omega), if_neg (by omega), if_neg (by omega), if_pos rfl]
  · intro j hj
    exact ⟨⟨rfl, Or.inl ⟨rfl, rfl⟩⟩, fun q hq => by simp [Value.ownBlock] at hq⟩
  · have e : len + 400 - 0 = 400 := by omega
    rw [e]
    exact bud_begin hI 0
/-- what comes out of a play. -/
def Came (ls : Nat → List Int) : Prop :=
  (∀ i, i + 1 < (ls 2).length → (ls 2).getD i 0 < (ls 2).getD (i + 1) 0) ∧ (∀ v ∈ ls 2, ¬ v ∈ ls 1) ∧ (∀ v ∈ ls 2, v ∈ ls 0) ∧
    (ls 1).length + (ls 2).length + ((ls 3).filter fun v => !(ls 2).contains v).length = (ls 0).length ∧ ∀ j, j < 4 → (ls j).length ≤ 2000
theorem EI.came {w0 w : World} {Pl S g Wv Ou P D n i len nx : Nat} {tl : Int} {pb : Bool} (hi9 : i ≤ 1000) (h : EI w0 w Pl S g Wv Ou P D n i len tl nx pb) :
    ∃ (vs : Nat → Value) (ls : Nat → List Int), Came ls ∧ Below w0.heap.size w0 w ∧ (∀ j, j < 4 → OI w (Ou + 1) (vs j) (ls j)) ∧ (∀ j, j < 4 → w.cell? ⟨Ou, j, none⟩ = some (vs j)) ∧ w.cell? ⟨Ou, 4, none⟩ = some (.bool true) ∧ w0.heap.size ≤ Ou := by
  obtain ⟨ρ, ag, ps, vs, ls, xs, m, p, h, hi, _⟩ := h
  refine ⟨vs, ls, ?_, h.os.b, fun j hj => (h.os.row j hj).1, fun j hj => h.os.out j hj, h.os.right, ?_⟩
  · have := inv_end h.iv hi
    obtain ⟨t1, t2, t3, t4⟩ := this
    have n1 := h.nb
    have n2 := h.iv.ls.cnt
    have n3 := h.iv.ls.HT
    have e0 : p.pushed.length = p.nx - 1 := by rw [h.iv.ls.pu]; simp
    have e3 : p.stack.length = p.T - p.L := by rw [h.iv.ls.st]; simp
    have e2 : p.stolen.length = p.H := by
      rw [h.iv.pd0 fun k _ k4 ⟨e, _⟩ => by rw [hi k k4] at e; cases e]
      simp
    rw [← h.l0, ← h.l1, ← h.l2, ← h.l3] at t4
    rw [← h.l0, ← h.l2] at t3
    rw [← h.l1, ← h.l2] at t2
    rw [← h.l2] at t1
    refine ⟨t1, t2, t3, t4, fun j hj => ?_⟩
    have hj4 : j = 0 ∨ j = 1 ∨ j = 2 ∨ j = 3 := by omega
    rcases hj4 with rfl | rfl | rfl | rfl
    · rw [h.l0]; omega
    · rw [h.l1]; omega
    · rw [h.l2]; omega
    · rw [h.l3]; omega
  · rcases Nat.lt_or_ge Ou w0.heap.size with hh | hh
    · have := h.os.z Ou hh
      rw [h.os.ro] at this
      omega
    · exact hh
end Go.Proofs.Ytegbifphekhgkaa.dqo
