/- Two programs that read the same are the same, as the document says it (layer 4). -/
import Derived.Test.YtdneblbaofhehaaBdI
namespace Go.Proofs.Ytdneblbaofhehaa.pr
open Go.ChangeShapes Go.WideShapes Go.ChangeAt Go.RowKit
open Go.Proofs.Ytdneblbaofhehaa.bin Go.Proofs.Ytdneblbaofhehaa.bits Go.Proofs.Ytdneblbaofhehaa.ins
set_option linter.unusedVariables false
set_option linter.unusedSimpArgs false
set_option maxRecDepth 20000 in
set_option maxHeartbeats 4000000 in
theorem same_v (m : Int) (a a' : Option Addr) (n n' c c' : Nat) (L : List (List I4)) (w : World) (h : PM w (.slice a n c) L) (h' : PM w (.slice a' n' c') L) :
    Calls Try.prog 15 #[.agg #[.int .i64 m, .slice a n c], .agg #[.int .i64 m, .slice a' n' c']] w fun e w' => e = .returned (.bool true) ∧ Below w.heap.size w w' := by
  obtain ⟨hnl, hnc, hcm⟩ := h.len
  obtain ⟨hnl', hnc', hcm'⟩ := h'.len
  obtain rfl : n' = n := by omega
  unfold maxLen at hcm hcm'
  obtain ⟨W, hW⟩ : ∃ W, ((w.alloc (.cells #[.int .i64 m, .slice a n' c] 38)).alloc (.cells #[.int .i64 m, .slice a' n' c'] 38)) = W := ⟨_, rfl⟩
  have hb0 : Below w.heap.size w W := by rw [← hW]; go_grown
  have HP := Lib.hid (show W.heap[w.heap.size]? = some (.cells #[.int .i64 m, .slice a n' c] 38 (0, 0)) by rw [← hW]; exact kb (heap_new w _ _) (by go_grown))
  have HQ := Lib.hid (show W.heap[w.heap.size + 1]? = some (.cells #[.int .i64 m, .slice a' n' c'] 38 (0, 0)) by rw [← hW]; simpa using heap_new (w.alloc (.cells #[.int .i64 m, .slice a n' c] 38)) #[.int .i64 m, .slice a' n' c'] 38)
  have hs1 : w.heap.size + 1 < W.heap.size := by rw [← hW]; simp
  have HW := Lib.hid hW
  have HPM := Lib.hid (fun wr (hb : Below W.heap.size W wr) => (h.below (tr3 hb0 hb)))
  have HPQ := Lib.hid (fun wr (hb : Below W.heap.size W wr) => (h'.below (tr3 hb0 hb)))
  have HB0 := Lib.hid hb0
  have h00 : Hid (Below W.heap.size W W) := Lib.hid (Below.refl _ _)
  clear h h' hnl hnl' hW hb0
  go_enter Try.func15, Try.ntmps15
  go_wp2_with fail
  rw [HW.out]
  have hp0 : W.cell? ⟨w.heap.size, 0, none⟩ = some (.int .i64 m) := cel HP.out 0
  have hp1 : W.cell? ⟨w.heap.size, 1, none⟩ = some (.slice a n' c) := cel HP.out 1
  have hq0 : W.cell? ⟨w.heap.size + 1, 0, none⟩ = some (.int .i64 m) := cel HQ.out 0
  have hq1 : W.cell? ⟨w.heap.size + 1, 1, none⟩ = some (.slice a' n' c') := cel HQ.out 1
  go_wp2_with fail
  clear hp0 hp1 hq0 hq1
  go_loopw [5] (fun i wr => ∃ k : Nat, i = .int .i64 (k : Int) ∧ k ≤ n' ∧ Hid (Below W.heap.size W wr)) (fun i _ => n' - (intOf i).toNat)
  case atStart => exact ⟨0, rfl, by omega, h00⟩
  case round =>
    clear h00
    obtain ⟨k, rfl, hk, HB⟩ := hrel
    have hp1 : wr.cell? ⟨w.heap.size, 1, none⟩ = some (.slice a n' c) := cel (kb HP.out HB.out) 1
    have hq1 : wr.cell? ⟨w.heap.size + 1, 1, none⟩ = some (.slice a' n' c') := cel (kb HQ.out HB.out) 1
    by_cases hlt : k < n'
    · obtain ⟨b, o, ai, ci, rfl, hbl, c0, hrow⟩ := (HPM.out wr HB.out).row k hlt
      obtain ⟨b', o', ai', ci', rfl, hbl', c0', hrow'⟩ := (HPQ.out wr HB.out).row k hlt
      obtain ⟨f, hx⟩ : ∃ x, L.getD k [] = x := ⟨_, rfl⟩
      rw [hx] at c0 c0' hrow hrow'
      obtain ⟨nf, hnf⟩ : ∃ nf, f.length = nf := ⟨_, rfl⟩
      rw [hnf] at c0 c0' hrow hrow'
      have hplI : (k : Int) < (n' : Int) := by omega
      have HRW := Lib.hid hrow
      have HRW' := Lib.hid hrow'
      have HC := Lib.hid c0
      have HC' := Lib.hid c0'
      have hnfm : nf ≤ 9223372036854775807 := by have := hrow.len.2; unfold maxLen at this; omega
      clear hrow hrow' hx
      go_wp2_with fail
      go_quiet (fail)
      obtain ⟨wn, hwn⟩ : ∃ wn, wr.drewN nq = wn := ⟨_, rfl⟩
      rw [hwn]
      have hbn : Below wr.heap.size wr wn := by rw [← hwn]; exact below_drewN (Below.refl _ _) _
      have hbr : Below wr.heap.size wr wr := Below.refl _ _
      have HBn := Lib.hid (tr3 HB.out hbn)
      have HPn := Lib.hid (kb HP.out HBn.out)
      have HQn := Lib.hid (kb HQ.out HBn.out)
      have HCn := Lib.hid (kc HC.out hbn)
      have HCn' := Lib.hid (kc HC'.out hbn)
      have HRn := Lib.hid (HRW.out.below hbn)
      have HRn' := Lib.hid (HRW'.out.below hbn)
      have hbln : b < wn.heap.size := Nat.lt_of_lt_of_le hbl hbn.size
      have hbln' : b' < wn.heap.size := Nat.lt_of_lt_of_le hbl' hbn.size
      have h50 : Hid (Below wn.heap.size wn wn) := Lib.hid (Below.refl _ _)
      have hp1n : wn.cell? ⟨w.heap.size, 1, none⟩ = some (.slice (some ⟨b, o, none⟩) n' c) := cel HPn.out 1
      have hcn : wn.cell? ⟨b, o + k, none⟩ = some (.slice ai nf ci) := HCn.out
      clear hwn hbn hbr c0 c0' hp1 hq1 HC HC' HRW HRW'
      go_wp2_with fail
      clear hp1n hcn
      go_loopw [6] (fun i wq => ∃ j : Nat, i = .int .i64 (j : Int) ∧ j ≤ nf ∧ Hid (Below wn.heap.size wn wq)) (fun i _ => nf - (intOf i).toNat)
      case atStart => exact ⟨0, rfl, by omega, h50⟩
      case round =>
        clear h50
        obtain ⟨j, rfl, hj, HB2⟩ := hrel
        have hp1 : wr.cell? ⟨w.heap.size, 1, none⟩ = some (.slice (some ⟨b, o, none⟩) n' c) := cel (kb HPn.out HB2.out) 1
        have hq1 : wr.cell? ⟨w.heap.size + 1, 1, none⟩ = some (.slice (some ⟨b', o', none⟩) n' c') := cel (kb HQn.out HB2.out) 1
        have z0 : wr.cell? ⟨b, o + k, none⟩ = some (.slice ai nf ci) := kc HCn.out HB2.out
        have z1 : wr.cell? ⟨b', o' + k, none⟩ = some (.slice ai' nf ci') := kc HCn'.out HB2.out
        by_cases hltj : j < nf
        · obtain ⟨bb, oo, rfl, hbl2, c0, c1, c2, c3⟩ := RV.four (HRn.out.below HB2.out) j hltj
          obtain ⟨bb', oo', rfl, hbl2', c0', c1', c2', c3'⟩ := RV.four (HRn'.out.below HB2.out) j hltj
          obtain ⟨⟨op, A, B, C⟩, hx⟩ : ∃ x, f.getD j d4 = x := ⟨_, rfl⟩
          rw [hx] at c0 c1 c2 c3 c0' c1' c2' c3'
          have hpl : (j : Int) < (nf : Int) := by omega
          clear hx
          go_wp2_with fail
          go_quiet (fail)
          obtain ⟨wn2, hwn2⟩ : ∃ wn2, wr.drewN nq = wn2 := ⟨_, rfl⟩
          rw [hwn2]
          have HB3 := Lib.hid (tr3 HB2.out (show Below wr.heap.size wr wn2 by rw [← hwn2]; exact below_drewN (Below.refl _ _) _))
          clear hwn2 hp1 hq1 z0 z1 c0 c1 c2 c3 c0' c1' c2' c3'
          go_wp2_with fail
          go_roundw
          case rel => exact ⟨j + 1, by go_num, by omega, HB3⟩
          case measure => simp [intOf]; omega
        · obtain rfl : j = nf := by omega
          have hltq : ¬ ((j : Int) < (j : Int)) := by omega
          have HB3 := Lib.hid (tr3 HBn.out HB2.out)
          go_wp2_with fail
          go_roundw
          case rel => exact ⟨k + 1, by go_num, by omega, HB3⟩
          case measure => simp [intOf]; omega
    · obtain rfl : k = n' := by omega
      have hlt : ¬ ((k : Int) < (k : Int)) := by omega
      go_wp2_with fail
      go_ret
      exact ⟨rfl, tr3 HB0.out (tr3 HB.out (by go_grown))⟩
end Go.Proofs.Ytdneblbaofhehaa.pr
