/- The law's comparison of two dags of the same strands (layer 30). -/
import Derived.Test.YtgbaaemocnjaoaaDgM
namespace Go.Proofs.Ytgbaaemocnjaoaa.dg
open Go.ChangeShapes Go.WideShapes Go.ChangeAt Go.RowKit
open Go.Proofs.Ytgbaaemocnjaoaa.ro Go.Proofs.Ytgbaaemocnjaoaa.sn
attribute [local go_sem ↓] Go.wp_at_zero Go.wp_at_succ
set_option linter.unusedVariables false
set_option linter.unusedSimpArgs false
theorem acc_same (a1 a2 : Int) (a3 : Bool) (w : World) : (binOp .neq 41 (.agg #[.int .i64 a1, .int .i64 a2, .bool a3]) (.agg #[.int .i64 a1, .int .i64 a2, .bool a3])).run Try.prog w = .ok (.bool false) w := by
  have h : (Op.equalIn 10000 41 (.agg #[.int .i64 a1, .int .i64 a2, .bool a3]) (.agg #[.int .i64 a1, .int .i64 a2, .bool a3])).run Try.prog w = .ok true w := by
    rw [show (10000 : Nat) = 9999 + 1 from rfl, run_equalIn_struct w 9999 41 _ _ (by kernel_rfl) (by kernel_rfl)]
    simp [go_sem, Try.underlying41]
  simp only [binOp]
  simp [Op.equal, Op.maxDepth, h]
theorem ints_row (va vb : Value) (xs : List Int) (wr : World) (q : Nat) (hA : View wr va xs) (hB : View wr vb xs) :
    Calls Try.prog 11 #[va, vb] (wr.drewN q) fun e w' => e = .returned (.bool true) ∧ ∃ m, w' = wr.drewN m :=
  (ints_any va vb xs xs (wr.drewN q) (hA.drewN q) (hB.drewN q)).mono fun e w' h => by
    obtain ⟨h1, m, h2⟩ := h
    exact ⟨by rw [h1]; simp, q + m, by rw [h2, World.drewN_drewN]⟩
set_option maxHeartbeats 2000000 in
set_option maxRecDepth 20000 in
theorem same_of (w : World) (pv nv av : Value) (D : Nat) (l2 : Value) (x : Dx) (P : List (List Int)) (N : List (Int × Int × Int)) (A : List (Int × Int × Bool)) (h1 : MV w pv P) (h2 : RV 3 enN w nv N) (h3 : RV 3 enA w av A) (hD : w.heap[D]? = some (.cells (x.cs l2) 61 (0, 0))) (g1 : MV w x.pv P) (g2 : RV 3 enN w x.nv N) (g3 : RV 3 enA w x.av A) (hpn : N.length = P.length) (hp : P.length ≤ 5000) (ha : A.length ≤ 5000) :
    Calls Try.prog 10 #[.agg #[pv, nv, av], .pointer (some ⟨D, 0, none⟩)] w fun e w' => e = .returned (.bool true) ∧ Below w.heap.size w w' := by
  obtain ⟨pa, pc, rfl, p1, p2, hP⟩ := h1
  obtain ⟨na, nc, rfl, n1, n2, n3, hN⟩ := h2
  obtain ⟨aa, ac, rfl, a1, a2, a3, hA⟩ := h3
  obtain ⟨qa, qc, hq, q1, q2, hQ⟩ := g1
  obtain ⟨ma, mc, hm, m1, m2, m3, hM⟩ := g2
  obtain ⟨ba, bc, hb, b1, b2, b3, hB⟩ := g3
  have d2 : w.cell? ⟨D, 2, none⟩ = some (.slice qa P.length qc) := by rw [← hq]; exact cel hD 2
  have d3 : w.cell? ⟨D, 3, none⟩ = some (.slice ma N.length mc) := by rw [← hm]; exact cel hD 3
  have d4 : w.cell? ⟨D, 4, none⟩ = some (.slice ba A.length bc) := by rw [← hb]; exact cel hD 4
  have hDl : D < w.heap.size := lt_of hD
  rw [hpn] at d3 n1 m1 ⊢
  obtain ⟨np, hnp⟩ : ∃ k, P.length = k := ⟨_, rfl⟩
  obtain ⟨nA, hnA⟩ : ∃ k, A.length = k := ⟨_, rfl⟩
  have HP : Hid (∀ i, i < np → ∃ g o u g' o' u', pa = some ⟨g, o, none⟩ ∧ qa = some ⟨g', o', none⟩ ∧ g < w.heap.size ∧ g' < w.heap.size ∧ w.cell? ⟨g, o + i, none⟩ = some u ∧ w.cell? ⟨g', o' + i, none⟩ = some u' ∧ ∃ xs, View w u xs ∧ View w u' xs) := Lib.hid fun i hi => by
    obtain ⟨g, o, u, s1, s2, s3, s4⟩ := hP i (by omega)
    obtain ⟨g', o', u', t1, t2, t3, t4⟩ := hQ i (by omega)
    exact ⟨g, o, u, g', o', u', s1, t1, s2, t2, s3, t3, _, s4, t4⟩
  have HN : Hid (∀ i, i < np → ∃ g o g' o', na = some ⟨g, o, none⟩ ∧ ma = some ⟨g', o', none⟩ ∧ g < w.heap.size ∧ g' < w.heap.size ∧ ∃ y0 y1 y2, w.cell? ⟨g, o + i * 3, none⟩ = some (.int .i64 y0) ∧ w.cell? ⟨g, o + i * 3 + 1, none⟩ = some (.int .i64 y1) ∧ w.cell? ⟨g, o + i * 3 + 2, none⟩ = some (.int .i64 y2) ∧ w.cell? ⟨g', o' + i * 3, none⟩ = some (.int .i64 y0) ∧ w.cell? ⟨g', o' + i * 3 + 1, none⟩ = some (.int .i64 y1) ∧ w.cell? ⟨g', o' + i * 3 + 2, none⟩ = some (.int .i64 y2)) := Lib.hid fun i hi => by
    have hy : N[i]? = some (N[i]'(by omega)) := List.getElem?_eq_getElem (by omega)
    obtain ⟨g, o, s1, s2, s3⟩ := hN i _ hy
    obtain ⟨g', o', t1, t2, t3⟩ := hM i _ hy
    exact ⟨g, o, g', o', s1, t1, s2, t2, _, _, _, by simpa using s3 0 _ rfl, by simpa [Nat.add_assoc] using s3 1 _ rfl, by simpa [Nat.add_assoc] using s3 2 _ rfl, by simpa using t3 0 _ rfl, by simpa [Nat.add_assoc] using t3 1 _ rfl, by simpa [Nat.add_assoc] using t3 2 _ rfl⟩
  have HA : Hid (∀ i, i < nA → ∃ g o g' o', aa = some ⟨g, o, none⟩ ∧ ba = some ⟨g', o', none⟩ ∧ g < w.heap.size ∧ g' < w.heap.size ∧ ∃ y0 y1 y2, w.cell? ⟨g, o + i * 3, none⟩ = some (.int .i64 y0) ∧ w.cell? ⟨g, o + i * 3 + 1, none⟩ = some (.int .i64 y1) ∧ w.cell? ⟨g, o + i * 3 + 2, none⟩ = some (.bool y2) ∧ w.cell? ⟨g', o' + i * 3, none⟩ = some (.int .i64 y0) ∧ w.cell? ⟨g', o' + i * 3 + 1, none⟩ = some (.int .i64 y1) ∧ w.cell? ⟨g', o' + i * 3 + 2, none⟩ = some (.bool y2)) := Lib.hid fun i hi => by
    have hy : A[i]? = some (A[i]'(by omega)) := List.getElem?_eq_getElem (by omega)
    obtain ⟨g, o, s1, s2, s3⟩ := hA i _ hy
    obtain ⟨g', o', t1, t2, t3⟩ := hB i _ hy
    exact ⟨g, o, g', o', s1, t1, s2, t2, _, _, _, by simpa using s3 0 _ rfl, by simpa [Nat.add_assoc] using s3 1 _ rfl, by simpa [Nat.add_assoc] using s3 2 _ rfl, by simpa using t3 0 _ rfl, by simpa [Nat.add_assoc] using t3 1 _ rfl, by simpa [Nat.add_assoc] using t3 2 _ rfl⟩
  rw [hnp] at d2 d3 hp ⊢
  rw [hnA] at d4 ha ⊢
  have r1 : ((np : Int) != (np : Int)) = false := by simp
  have r2 : ((nA : Int) != (nA : Int)) = false := by simp
  have hpi : (np : Int) ≤ 5000 := by omega
  have hai : (nA : Int) ≤ 5000 := by omega
  clear hP hN hA hQ hM hB hD p1 p2 n1 n2 n3 a1 a2 a3 q1 q2 m1 m2 m3 b1 b2 b3 hq hm hb hpn hnp hnA hp ha
  go_enter Try.func10, Try.ntmps10
  go_wp2_with fail
  go_quiet (fail)
  go_wp2_with fail
  obtain ⟨W, hW⟩ : ∃ W, ((w.alloc (.cells #[.slice pa np pc, .slice na np nc, .slice aa nA ac] 28)).drewN nq) = W := ⟨_, rfl⟩
  have hX0 : W.heap[w.heap.size]? = some (.cells #[.slice pa np pc, .slice na np nc, .slice aa nA ac] 28 (0, 0)) := by rw [← hW]; exact heap_new w _
  have hB0 : Below w.heap.size w W := by rw [← hW]; exact below_drewN (by go_grown) _
  have H0 := Lib.hid (And.intro hX0 hB0)
  rw [hW]
  clear hW hX0 hB0
  go_loopw [5] (fun i wr => ∃ k : Nat, k ≤ np ∧ i = .int .i64 (k : Int) ∧ Hid (wr.heap[w.heap.size]? = some (.cells #[.slice pa np pc, .slice na np nc, .slice aa nA ac] 28 (0, 0)) ∧ Below w.heap.size w wr)) (fun i _ => np - (intOf i).toNat)
  case atStart => exact ⟨0, by omega, rfl, H0⟩
  case round =>
    clear H0
    obtain ⟨k, hk, rfl, HR⟩ := hrel
    have z0 : wr.cell? ⟨w.heap.size, 0, none⟩ = some (.slice pa np pc) := cel HR.out.1 0
    have z1 : wr.cell? ⟨w.heap.size, 1, none⟩ = some (.slice na np nc) := cel HR.out.1 1
    have z2 : wr.cell? ⟨w.heap.size, 2, none⟩ = some (.slice aa nA ac) := cel HR.out.1 2
    have hb := HR.out.2
    have c2 := (hb.cell (p := ⟨D, 2, none⟩) hDl).trans d2
    have c3 := (hb.cell (p := ⟨D, 3, none⟩) hDl).trans d3
    have c4 := (hb.cell (p := ⟨D, 4, none⟩) hDl).trans d4
    by_cases hlt : k < np
    · obtain ⟨g, o, u, g', o', u', rfl, rfl, s1, s2, s3, s4, xs, v1, v2⟩ := HP.out k hlt
      obtain ⟨h, p, h', p', rfl, rfl, t1, t2, y0, y1, y2, n0, n1, n2, m0, m1, m2⟩ := HN.out k hlt
      have e3 := (hb.cell (p := ⟨g, o + k, none⟩) s1).trans s3
      have e4 := (hb.cell (p := ⟨g', o' + k, none⟩) s2).trans s4
      have f0 := (hb.cell (p := ⟨h, p + k * 3, none⟩) t1).trans n0
      have f1 := (hb.cell (p := ⟨h, p + k * 3 + 1, none⟩) t1).trans n1
      have f2 := (hb.cell (p := ⟨h, p + k * 3 + 2, none⟩) t1).trans n2
      have l0 := (hb.cell (p := ⟨h', p' + k * 3, none⟩) t2).trans m0
      have l1 := (hb.cell (p := ⟨h', p' + k * 3 + 1, none⟩) t2).trans m1
      have l2 := (hb.cell (p := ⟨h', p' + k * 3 + 2, none⟩) t2).trans m2
      have CI := Lib.hid (fun q => ints_row u u' xs wr q (v1.below hb) (v2.below hb))
      have b0 : (y0 != y0) = false := by simp
      have b1 : (y1 != y1) = false := by simp
      have b2 : (y2 != y2) = false := by simp
      have hki : (k : Int) < (np : Int) := by omega
      clear v1 v2 s3 s4 n0 n1 n2 m0 m1 m2 hb d2 d3 d4
      go_wp2_with fail
      try simp only [List.append_eq, List.cons_append, List.nil_append, List.append]
      go_quiet ((go_at_call 11; exact CI.out _))
      rename_i q1
      go_wp2_with fail
      go_roundw
      case rel => exact ⟨k + 1, by omega, by go_num, Lib.hid ⟨HR.out.1, below_drewN HR.out.2 _⟩⟩
      case measure => simp [intOf]; omega
    · obtain rfl : k = np := by omega
      clear c2 c3 hb
      obtain ⟨w6, rfl⟩ : ∃ w6, w6 = wr := ⟨wr, rfl⟩
      go_wp2_with fail
      clear c4 z0 z1 z2
      go_loopw [6] (fun i wr => ∃ j : Nat, j ≤ nA ∧ i = .int .i64 (j : Int) ∧ Hid (wr.heap[w.heap.size]? = some (.cells #[.slice pa k pc, .slice na k nc, .slice aa nA ac] 28 (0, 0)) ∧ Below w.heap.size w wr)) (fun i _ => nA - (intOf i).toNat)
      case atStart => exact ⟨0, by omega, rfl, HR⟩
      case round =>
        clear HR
        obtain ⟨j, hj, rfl, HR⟩ := hrel
        have z2 : wr.cell? ⟨w.heap.size, 2, none⟩ = some (.slice aa nA ac) := cel HR.out.1 2
        have hb := HR.out.2
        have c4 := (hb.cell (p := ⟨D, 4, none⟩) hDl).trans d4
        by_cases hlt2 : j < nA
        · obtain ⟨h, p, h', p', rfl, rfl, t1, t2, y0, y1, y2, n0, n1, n2, m0, m1, m2⟩ := HA.out j hlt2
          have f0 := (hb.cell (p := ⟨h, p + j * 3, none⟩) t1).trans n0
          have f1 := (hb.cell (p := ⟨h, p + j * 3 + 1, none⟩) t1).trans n1
          have f2 := (hb.cell (p := ⟨h, p + j * 3 + 2, none⟩) t1).trans n2
          have l0 := (hb.cell (p := ⟨h', p' + j * 3, none⟩) t2).trans m0
          have l1 := (hb.cell (p := ⟨h', p' + j * 3 + 1, none⟩) t2).trans m1
          have l2 := (hb.cell (p := ⟨h', p' + j * 3 + 2, none⟩) t2).trans m2
          have hji : (j : Int) < (nA : Int) := by omega
          have heq : ∀ w, Sem.run Try.prog (binOp .neq 41 (.agg #[.int .i64 y0, .int .i64 y1, .bool y2]) (.agg #[.int .i64 y0, .int .i64 y1, .bool y2])) w = .ok (.bool false) w := acc_same y0 y1 y2
          clear n0 n1 n2 m0 m1 m2 hb d2 d3 d4
          go_wp2_with fail
          go_quiet (fail)
          rename_i q1
          go_wp2_with fail
          go_roundw
          case rel => exact ⟨j + 1, by omega, by go_num, Lib.hid ⟨HR.out.1, below_drewN HR.out.2 _⟩⟩
          case measure => simp [intOf]; omega
        · obtain rfl : j = nA := by omega
          clear c4 hb
          go_wp2_with fail
          go_ret
          exact ⟨rfl, HR.out.2⟩
end Go.Proofs.Ytgbaaemocnjaoaa.dg
