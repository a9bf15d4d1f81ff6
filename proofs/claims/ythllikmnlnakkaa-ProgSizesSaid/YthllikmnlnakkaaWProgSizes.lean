/- Programs (layer 4): as long as it says: the walk of the law. -/
import Derived.Test.YthllikmnlnakkaaPrY
import Derived.Test.YthllikmnlnakkaaPrP
import Derived.Test.YthllikmnlnakkaaPrE
import Derived.Test.YthllikmnlnakkaaPrX
import Derived.Test.YthllikmnlnakkaaPrM
import Derived.Test.YthllikmnlnakkaaPrL
namespace Go.Proofs.Ythllikmnlnakkaa.progSizes
open Go.ChangeShapes Go.WideShapes Go.ChangeAt Go.RowKit
open Go.Proofs.Ythllikmnlnakkaa.bin Go.Proofs.Ythllikmnlnakkaa.bits Go.Proofs.Ythllikmnlnakkaa.ins Go.Proofs.Ythllikmnlnakkaa.pr
set_option linter.unusedVariables false
set_option linter.unusedSimpArgs false
set_option maxRecDepth 20000 in
set_option maxHeartbeats 1600000 in
theorem walk (m0 : Int) (a0 : Option Addr) (n0 c0 : Nat) (L0 : List (List I4)) (w : World) (w0 : PM w (.slice a0 n0 c0) L0) :
    Calls Try.prog 7 #[.agg #[.int .i64 m0, .slice a0 n0 c0]] w fun e w' => e = .returned (.bool true) ∧ Below w.heap.size w w' := by
  obtain ⟨W, hW⟩ : ∃ W, w.alloc (.cells #[.int .i64 m0, .slice a0 n0 c0] 24) = W := ⟨_, rfl⟩
  have hb0 : Below w.heap.size w W := by rw [← hW]; go_grown
  have HP := Lib.hid (show W.heap[w.heap.size]? = some (.cells #[.int .i64 m0, .slice a0 n0 c0] 24 (0, 0)) by rw [← hW]; exact heap_new _ _ _)
  have hs1 : w.heap.size < W.heap.size := by rw [← hW]; simp
  have HM := Lib.hid w0
  have HW := Lib.hid hW
  have HB := Lib.hid hb0
  have CW := Lib.hid works_v
  clear w0 hW hb0
  go_enter Try.func7, Try.ntmps7
  go_wp2_with fail
  rw [HW.out]
  refine (CW.out _).mono ?_
  rintro e w1 ⟨rfl, hb1⟩
  have HB1 := Lib.hid hb1
  have hp0 : w1.cell? ⟨w.heap.size, 0, none⟩ = some (.int .i64 m0) := cel (kb HP.out HB1.out) 0
  have hp1 : w1.cell? ⟨w.heap.size, 1, none⟩ = some (.slice a0 n0 c0) := cel (kb HP.out HB1.out) 1
  clear hb1 CW
  go_wp2_with fail
  refine (great_v m0 a0 n0 c0 L0 w1 (HM.out.below (tr3 HB.out HB1.out))).mono ?_
  rintro e w2 ⟨rfl | ⟨rfl, hS⟩, hb2⟩
  · have HB2 := Lib.hid (tr3 HB1.out hb2)
    clear hb2 hp0 hp1
    go_wp2_with fail
    go_ret
    exact ⟨rfl, tr3 (tr3 HB.out HB2.out) (by go_grown)⟩
  · have HB2 := Lib.hid (tr3 HB1.out hb2)
    clear hb2 hp0 hp1
    have hp0 : w2.cell? ⟨w.heap.size, 0, none⟩ = some (.int .i64 m0) := cel (kb HP.out HB2.out) 0
    have hp1 : w2.cell? ⟨w.heap.size, 1, none⟩ = some (.slice a0 n0 c0) := cel (kb HP.out HB2.out) 1
    go_wp2_with fail
    refine (own_v m0 a0 n0 c0 L0 w2 (HM.out.below (tr3 HB.out HB2.out)) hS).mono ?_
    rintro e w3 ⟨v3, rows3, rfl, ho3, hb3⟩
    obtain ⟨a3, c3, rfl, _⟩ := ho3.pm.form
    have HB3 := Lib.hid (tr3 HB2.out hb3)
    have HO3 := Lib.hid ho3.pm
    clear hb3 ho3 hp0 hp1
    go_wp2_with fail
    refine (pput_any m0 a3 _ c3 L0 w3 HO3.out).mono ?_
    rintro e w4 ⟨rfl, hb4⟩
    have HB4 := Lib.hid (tr3 HB3.out hb4)
    clear hb4
    obtain ⟨r, hr⟩ : ∃ r, prE m0 L0 = r := ⟨_, rfl⟩
    have hp0 : w4.cell? ⟨w.heap.size, 0, none⟩ = some (.int .i64 m0) := cel (kb HP.out HB4.out) 0
    have hp1 : w4.cell? ⟨w.heap.size, 1, none⟩ = some (.slice a0 n0 c0) := cel (kb HP.out HB4.out) 1
    by_cases h0 : r = 0
    · subst h0
      have hs : prS m0 L0 = prB m0 L0 := by unfold prS; rw [if_pos hr]
      rw [hs, hr]
      have hlen := prB_len m0 L0
      obtain ⟨b, hb⟩ : ∃ b, prB m0 L0 = b := ⟨_, rfl⟩
      have hsz : b.length ≤ 60000 := by
        rw [← hb, ← szF_all]
        have := szF_small L0 hS _ (Nat.le_refl _)
        have := hS.1
        omega
      have hsz0 : 6 ≤ b.length := by rw [← hb, hlen]; omega
      rw [hb] at hlen ⊢
      have hbi : (b.length : Int) ≤ 60000 := by omega
      have HL := Lib.hid hb
      have HR := Lib.hid hr
      have HS := Lib.hid hS
      obtain ⟨hnl, hnc, hcm⟩ := HM.out.len
      unfold maxLen at hcm
      obtain ⟨_, _, hn1, hn16⟩ := cntE_0 (prE_0 hr).1
      have hnn1 : 1 ≤ n0 := by rw [hnl]; exact hn1
      have hnn2 : n0 ≤ 16 := by rw [hnl]; exact hn16
      have HSZ : Hid (∀ k, k ≤ n0 → szF L0 k ≤ 6 + 1202 * k) := Lib.hid (by rw [hnl]; exact szF_small L0 hS)
      have HSA : Hid (szF L0 n0 = b.length) := Lib.hid (by rw [hnl, ← hb]; exact szF_all m0 L0)
      have HNL := Lib.hid hnl
      have h00 : Hid (Below w4.heap.size w4 w4) := Lib.hid (Below.refl _ _)
      clear hr hb hS hlen hs hnl hn1 hn16
      go_wp2_with fail
      clear hp0 hp1
      go_loopw [5, 6] (fun s i wr => ∃ k : Nat, s = .int .i64 (szF L0 k : Int) ∧ i = .int .i64 (k : Int) ∧ k ≤ n0 ∧ Hid (Below w4.heap.size w4 wr)) (fun _ i _ => n0 - (intOf i).toNat)
      case atStart => exact ⟨0, rfl, rfl, by omega, h00⟩
      case round =>
        clear h00
        obtain ⟨k, rfl, rfl, hk, HBk⟩ := hrel
        have hp1 : wr.cell? ⟨w.heap.size, 1, none⟩ = some (.slice a0 n0 c0) := cel (kb HP.out (tr3 HB4.out HBk.out)) 1
        have hz := HSZ.out k hk
        by_cases hlt : k < n0
        · obtain ⟨ab, ao, ai, ci, rfl, hbl, z0, hrow⟩ := (HM.out.below (tr3 (tr3 HB.out HB4.out) HBk.out)).row k hlt
          have hl3 : (L0.getD k []).length ≤ 300 := HS.out.2 k (by rw [← HNL.out]; exact hlt)
          obtain ⟨nl, hnl⟩ : ∃ nl, (L0.getD k []).length = nl := ⟨_, rfl⟩
          have hzs : szF L0 (k + 1) = szF L0 k + 2 + 4 * nl := by rw [szF, hnl]
          rw [hnl] at z0 hl3
          obtain ⟨sz, hsz⟩ : ∃ sz, szF L0 k = sz := ⟨_, rfl⟩
          rw [hsz] at hzs hz ⊢
          have HZS := Lib.hid hzs
          have hplI : (k : Int) < (n0 : Int) := by omega
          clear hrow hnl hsz hzs
          go_wp2_with fail
          go_roundw
          case rel => exact ⟨k + 1, by rw [HZS.out]; go_num, by go_num, by omega, Lib.hid (tr3 HBk.out (by go_grown))⟩
          case measure => simp [intOf]; omega
        · obtain rfl : k = n0 := by omega
          rw [HSA.out]
          have hlt : ¬ ((k : Int) < (k : Int)) := by omega
          have hp0 : wr.cell? ⟨w.heap.size, 0, none⟩ = some (.int .i64 m0) := cel (kb HP.out (tr3 HB4.out HBk.out)) 0
          go_wp2_with fail
          refine (own_v m0 a0 _ c0 L0 wr (HM.out.below (tr3 (tr3 HB.out HB4.out) HBk.out)) HS.out).mono ?_
          rintro e w5 ⟨v5, rows5, rfl, ho5, hb5⟩
          obtain ⟨a5, c5, rfl, _⟩ := ho5.pm.form
          rw [← HNL.out] at ho5 ⊢
          have HB5 := Lib.hid (tr3 (tr3 HB4.out HBk.out) hb5)
          have HO5 := Lib.hid ho5
          obtain ⟨w6, hw6⟩ : ∃ w6, w5.alloc (.cells #[.int .i64 m0, .slice a5 k c5] 24) = w6 := ⟨_, rfl⟩
          have hb56 : Below w5.heap.size w5 w6 := by rw [← hw6]; go_grown
          have HP6 := Lib.hid (show w6.heap[w5.heap.size]? = some (.cells #[.int .i64 m0, .slice a5 k c5] 24 (0, 0)) by rw [← hw6]; exact heap_new _ _ _)
          have HB6 := Lib.hid (tr3 HB5.out hb56)
          have HO6 := Lib.hid (HO5.out.below hb56)
          have HW6 := Lib.hid hw6
          have ho5l := own_ltP ho5.1
          have ho5r := ho5.rows_lt
          obtain ⟨g5, cp5, e5, hg5, _⟩ := ho5.shape (by rw [← HNL.out]; omega)
          have hw5 : wr.heap.size + 3 ≤ w5.heap.size := by have := ho5l g5 (by rw [e5]; rfl); omega
          have hWr := (tr3 HB4.out HBk.out).size
          have hlL : L0.length = k := HNL.out.symm
          clear e5 hg5
          have hs6 : w5.heap.size < w6.heap.size := by rw [← hw6]; simp
          clear ho5 hb5 hp0 hp1 hw6 hb56
          go_wp2_with fail
          rw [HW6.out]
          -- REGION
          have p0 : w6.drew.cell? ⟨w.heap.size, 0, none⟩ = some (.int .i64 m0) := cel (kb HP.out HB6.out) 0
          have p1 : w6.drew.cell? ⟨w.heap.size, 1, none⟩ = some (.slice a0 k c0) := cel (kb HP.out HB6.out) 1
          have q1 : w6.drew.cell? ⟨w5.heap.size, 1, none⟩ = some (.slice a5 k c5) := cel HP6.out 1
          refine wp_region_any (by kernel_rfl) ?_
          change wpAny _ _ _ _ _ _ _ (World.drew _)
          refine wpAny_take (i := 0) (v := ?_) rfl (by kernel_rfl) (by kernel_rfl) (by kernel_rfl) (fun _ _ _ h => h) (Or.inl ⟨by rfl, ?_⟩) ?_
          rotate_left
          · intro w9; go_simp; try with_reducible rfl
          refine wpAny_ready (rs := [1, 2]) (by kernel_rfl) (by simp) ?_
          refine AllReady.cons rfl (fun K hK => ?_) ?_
          · go_simp
            refine hK _ _ ?_
            clear hK K
            refine wpAny_ready (rs := [2]) (by kernel_rfl) (by simp) ?_
            refine AllReady.cons rfl (fun K hK => ?_) ?_
            · go_simp
              refine hK _ _ ?_
              clear hK K
              refine wpAny_ready (rs := [3]) (by kernel_rfl) (by simp) ?_
              refine AllReady.cons rfl (fun K hK => ?_) ?_
              · go_simp
                refine (own_v m0 a0 _ c0 L0 w6.drew (HM.out.below (tr3 (tr3 HB.out HB6.out) (by go_grown))) HS.out).mono ?_
                rintro e w7 ⟨v7, rows7, rfl, ho7, hb7⟩
                obtain ⟨a7, c7, rfl, _⟩ := ho7.pm.form
                rw [hlL] at ho7 ⊢
                have hq1 : w7.cell? ⟨w5.heap.size, 1, none⟩ = some (.slice a5 k c5) := cel (kb HP6.out (tr3 (by go_grown) hb7)) 1
                have HB67 : Below w6.heap.size w6 w7 := Below.trans (by go_grown) hb7
                refine hK _ _ ?_
                clear hK K
                refine wpAny_take (i := 4) (v := ?_) rfl (by kernel_rfl) (by kernel_rfl) (by kernel_rfl) (fun _ _ _ h => h) (Or.inl ⟨by rfl, ?_⟩) ?_
                rotate_left
                · intro w9; go_simp; first | done | (with_reducible rfl) | (simp [Instr.field, go_sem, Try.underlying24]; done) | (simp [Instr.field, go_sem, Try.underlying24]; rfl) | rfl | trace_state
                refine wpAny_ready (rs := [5]) (by kernel_rfl) (by simp) ?_
                refine AllReady.cons rfl (fun K hK => ?_) ?_
                · refine step_appPP rfl (.tmp 44) (.tmp 47) (by rfl) (wr.heap.size + 3) (w6.drew.heap.size + 3) (.slice a5 k c5) (.slice a7 k c7) rows5 rows7 L0 L0 rfl rfl (HO6.out.below HB67) ho7 (by show wr.heap.size + 3 ≤ w6.heap.size + 3; omega) (by omega) (by omega) (by omega) (by have := HB67.size; omega) ?_
                  intro v8 w8 ho8 hg8 hor8
                  obtain ⟨a8, c8, rfl, hle8⟩ := ho8.pm.form
                  have hl8 : (L0 ++ L0).length = k + k := by rw [List.length_append, hlL]
                  rw [hl8] at ho8 hle8 hor8 ⊢
                  have hne8 : ∀ q, q = w5.heap.size → some q ≠ (Value.slice a5 k c5).ownBlock := fun q hq e => by have := ho5l q e.symm; omega
                  have h78 := HB67.size
                  have HP8 := Lib.hid ((hg8.block w5.heap.size (by omega) (hne8 _ rfl)).trans (kb HP6.out HB67))
                  have HB8 := Lib.hid ((tr3 HB6.out HB67).grown hg8 (by omega) (fun q e => by have := ho5l q e; omega))
                  have HO8 := Lib.hid ((ho8.keepx (g := w5.heap.size) (w' := w8.setCell ⟨w5.heap.size, 1, none⟩ (.slice a8 (k + k) c8)) (by
                    intro e
                    rcases hor8 with h | h
                    · exact hne8 _ rfl (by rw [← h, e])
                    · rw [e] at h
                      have := Option.some.inj h
                      omega) (by
                    intro i u hu e
                    by_cases hi : i < rows5.length
                    · rw [List.getElem?_append_left hi] at hu
                      have := ho5r i u hu _ e
                      omega
                    · rw [List.getElem?_append_right (by omega)] at hu
                      have := ho7.rows_lt _ u hu _ e
                      have h9 : w6.drew.heap.size = w6.heap.size := rfl
                      omega) (fun q hq => set_oth _ _ _ _ _ hq)).pm)
                  have hq8 : w8.cell? ⟨w5.heap.size, 1, none⟩ = some (.slice a5 k c5) := cel HP8.out 1
                  have hf8 : w8.frozen? ⟨w5.heap.size, 1, none⟩ = false := frz HP8.out 1
                  clear ho8 hg8 hor8 hne8 ho7 hq1
                  refine hK _ _ ?_
                  clear hK K
                  refine wpAny_take (i := 6) (v := ?_) rfl (by kernel_rfl) (by kernel_rfl) (by kernel_rfl) (fun _ _ _ h => h) (Or.inl ⟨by rfl, ?_⟩) ?_
                  rotate_left
                  · intro w9; go_simp; try with_reducible rfl
                  refine wpAny_ready (rs := [7]) (by kernel_rfl) (by simp) ?_
                  refine AllReady.cons rfl (fun K hK => ?_) ?_
                  · go_simp
                    refine hK _ _ ?_
                    clear hK K
                    refine wpAny_done (by kernel_rfl) ?_ _
                    obtain ⟨w9, hw9⟩ : ∃ w9, w8.setCell ⟨w5.heap.size, 1, none⟩ (.slice a8 (k + k) c8) = w9 := ⟨_, rfl⟩
                    have hp9 : w9.heap[w5.heap.size]? = some (.cells #[.int .i64 m0, .slice a8 (k + k) c8] 24 (0, 0)) := by
                      rw [← hw9]; exact set_blk _ _ _ _ HP8.out
                    have hb9 : Below W.heap.size W w9 := by
                      rw [← hw9]; exact HB8.out.setCell (p := ⟨w5.heap.size, 1, none⟩) (by show W.heap.size ≤ w5.heap.size; omega) _
                    rw [hw9] at HO8
                    have d0 : (w8.setCell ⟨w5.heap.size, 1, none⟩ (.slice a8 (k + k) c8)).cell? ⟨w5.heap.size, 0, none⟩ = some (.int .i64 m0) := by rw [hw9]; exact cel hp9 0
                    have d1 : (w8.setCell ⟨w5.heap.size, 1, none⟩ (.slice a8 (k + k) c8)).cell? ⟨w5.heap.size, 1, none⟩ = some (.slice a8 (k + k) c8) := by rw [hw9]; exact cel hp9 1
                    have HW9 := Lib.hid hw9
                    have HP9 := Lib.hid hp9
                    have HB9 := Lib.hid hb9
                    clear hq8 hf8 p0 p1 q1 HP8 HB8 hw9 hp9 hb9 ho5l ho5r
                    go_wp2_with fail
                    rw [HW9.out]
                    clear d0 d1
                    refine (pput_any m0 a8 _ c8 (L0 ++ L0) w9 HO8.out).mono ?_
                    rintro e wx ⟨rfl, hbx⟩
                    have e1 : wx.cell? ⟨w5.heap.size, 1, none⟩ = some (.slice a8 (k + k) c8) := cel (kb HP9.out hbx) 1
                    have HBx := Lib.hid (tr3 HB9.out hbx)
                    have hfs := str_size b
                    clear hbx HW9 HP9 HB9 HO8
                    by_cases hbig : 16 < k + k
                    · have hg : (16 : Int) < ((k + k : Nat) : Int) := by omega
                      have hpe := prE_big HR.out (by rw [hlL]; exact hbig)
                      have hps : prS m0 (L0 ++ L0) = [] := by unfold prS; rw [if_neg (by rw [hpe]; decide)]
                      rw [hps, hpe]
                      clear hpe hps
                      go_wp2_with fail
                      go_ret
                      exact ⟨by first | rfl | simp, tr3 (tr3 HB.out HBx.out) (by go_grown)⟩
                    · have hg : ¬ (16 : Int) < ((k + k : Nat) : Int) := by omega
                      have hpe := prE_dbl HR.out (by rw [hlL]; exact hbig)
                      have hps : prS m0 (L0 ++ L0) = prB m0 (L0 ++ L0) := by unfold prS; rw [if_pos hpe]
                      have htl := prB_two m0 L0
                      rw [HL.out] at htl
                      rw [hps, hpe]
                      obtain ⟨t, ht⟩ : ∃ t, prB m0 (L0 ++ L0) = t := ⟨_, rfl⟩
                      rw [ht] at htl ⊢
                      have htI : (t.length : Int) = 2 * (b.length : Int) - 6 := by omega
                      have htb : t.length ≤ 200000 := by omega
                      have hft := str_size t
                      clear hpe hps ht htl
                      go_wp2_with fail
                      go_ret
                      exact ⟨by first | rfl | simp, tr3 (tr3 HB.out HBx.out) (by go_grown)⟩
                  exact AllReady.nil
                exact AllReady.nil
              exact AllReady.nil
            exact AllReady.nil
          refine AllReady.cons rfl (fun K hK => ?_) ?_
          · go_simp
            refine hK _ _ ?_
            clear hK K
            refine wpAny_ready (rs := [1, 3]) (by kernel_rfl) (by simp) ?_
            refine AllReady.cons rfl (fun K hK => ?_) ?_
            · go_simp
              refine hK _ _ ?_
              clear hK K
              refine wpAny_ready (rs := [3]) (by kernel_rfl) (by simp) ?_
              refine AllReady.cons rfl (fun K hK => ?_) ?_
              · go_simp
                refine (own_v m0 a0 _ c0 L0 w6.drew (HM.out.below (tr3 (tr3 HB.out HB6.out) (by go_grown))) HS.out).mono ?_
                rintro e w7 ⟨v7, rows7, rfl, ho7, hb7⟩
                obtain ⟨a7, c7, rfl, _⟩ := ho7.pm.form
                rw [hlL] at ho7 ⊢
                have hq1 : w7.cell? ⟨w5.heap.size, 1, none⟩ = some (.slice a5 k c5) := cel (kb HP6.out (tr3 (by go_grown) hb7)) 1
                have HB67 : Below w6.heap.size w6 w7 := Below.trans (by go_grown) hb7
                refine hK _ _ ?_
                clear hK K
                refine wpAny_take (i := 4) (v := ?_) rfl (by kernel_rfl) (by kernel_rfl) (by kernel_rfl) (fun _ _ _ h => h) (Or.inl ⟨by rfl, ?_⟩) ?_
                rotate_left
                · intro w9; go_simp; first | done | (with_reducible rfl) | (simp [Instr.field, go_sem, Try.underlying24]; done) | (simp [Instr.field, go_sem, Try.underlying24]; rfl) | rfl | trace_state
                refine wpAny_ready (rs := [5]) (by kernel_rfl) (by simp) ?_
                refine AllReady.cons rfl (fun K hK => ?_) ?_
                · refine step_appPP rfl (.tmp 44) (.tmp 47) (by rfl) (wr.heap.size + 3) (w6.drew.heap.size + 3) (.slice a5 k c5) (.slice a7 k c7) rows5 rows7 L0 L0 rfl rfl (HO6.out.below HB67) ho7 (by show wr.heap.size + 3 ≤ w6.heap.size + 3; omega) (by omega) (by omega) (by omega) (by have := HB67.size; omega) ?_
                  intro v8 w8 ho8 hg8 hor8
                  obtain ⟨a8, c8, rfl, hle8⟩ := ho8.pm.form
                  have hl8 : (L0 ++ L0).length = k + k := by rw [List.length_append, hlL]
                  rw [hl8] at ho8 hle8 hor8 ⊢
                  have hne8 : ∀ q, q = w5.heap.size → some q ≠ (Value.slice a5 k c5).ownBlock := fun q hq e => by have := ho5l q e.symm; omega
                  have h78 := HB67.size
                  have HP8 := Lib.hid ((hg8.block w5.heap.size (by omega) (hne8 _ rfl)).trans (kb HP6.out HB67))
                  have HB8 := Lib.hid ((tr3 HB6.out HB67).grown hg8 (by omega) (fun q e => by have := ho5l q e; omega))
                  have HO8 := Lib.hid ((ho8.keepx (g := w5.heap.size) (w' := w8.setCell ⟨w5.heap.size, 1, none⟩ (.slice a8 (k + k) c8)) (by
                    intro e
                    rcases hor8 with h | h
                    · exact hne8 _ rfl (by rw [← h, e])
                    · rw [e] at h
                      have := Option.some.inj h
                      omega) (by
                    intro i u hu e
                    by_cases hi : i < rows5.length
                    · rw [List.getElem?_append_left hi] at hu
                      have := ho5r i u hu _ e
                      omega
                    · rw [List.getElem?_append_right (by omega)] at hu
                      have := ho7.rows_lt _ u hu _ e
                      have h9 : w6.drew.heap.size = w6.heap.size := rfl
                      omega) (fun q hq => set_oth _ _ _ _ _ hq)).pm)
                  have hq8 : w8.cell? ⟨w5.heap.size, 1, none⟩ = some (.slice a5 k c5) := cel HP8.out 1
                  have hf8 : w8.frozen? ⟨w5.heap.size, 1, none⟩ = false := frz HP8.out 1
                  clear ho8 hg8 hor8 hne8 ho7 hq1
                  refine hK _ _ ?_
                  clear hK K
                  refine wpAny_take (i := 6) (v := ?_) rfl (by kernel_rfl) (by kernel_rfl) (by kernel_rfl) (fun _ _ _ h => h) (Or.inl ⟨by rfl, ?_⟩) ?_
                  rotate_left
                  · intro w9; go_simp; try with_reducible rfl
                  refine wpAny_ready (rs := [7]) (by kernel_rfl) (by simp) ?_
                  refine AllReady.cons rfl (fun K hK => ?_) ?_
                  · go_simp
                    refine hK _ _ ?_
                    clear hK K
                    refine wpAny_done (by kernel_rfl) ?_ _
                    obtain ⟨w9, hw9⟩ : ∃ w9, w8.setCell ⟨w5.heap.size, 1, none⟩ (.slice a8 (k + k) c8) = w9 := ⟨_, rfl⟩
                    have hp9 : w9.heap[w5.heap.size]? = some (.cells #[.int .i64 m0, .slice a8 (k + k) c8] 24 (0, 0)) := by
                      rw [← hw9]; exact set_blk _ _ _ _ HP8.out
                    have hb9 : Below W.heap.size W w9 := by
                      rw [← hw9]; exact HB8.out.setCell (p := ⟨w5.heap.size, 1, none⟩) (by show W.heap.size ≤ w5.heap.size; omega) _
                    rw [hw9] at HO8
                    have d0 : (w8.setCell ⟨w5.heap.size, 1, none⟩ (.slice a8 (k + k) c8)).cell? ⟨w5.heap.size, 0, none⟩ = some (.int .i64 m0) := by rw [hw9]; exact cel hp9 0
                    have d1 : (w8.setCell ⟨w5.heap.size, 1, none⟩ (.slice a8 (k + k) c8)).cell? ⟨w5.heap.size, 1, none⟩ = some (.slice a8 (k + k) c8) := by rw [hw9]; exact cel hp9 1
                    have HW9 := Lib.hid hw9
                    have HP9 := Lib.hid hp9
                    have HB9 := Lib.hid hb9
                    clear hq8 hf8 p0 p1 q1 HP8 HB8 hw9 hp9 hb9 ho5l ho5r
                    go_wp2_with fail
                    rw [HW9.out]
                    clear d0 d1
                    refine (pput_any m0 a8 _ c8 (L0 ++ L0) w9 HO8.out).mono ?_
                    rintro e wx ⟨rfl, hbx⟩
                    have e1 : wx.cell? ⟨w5.heap.size, 1, none⟩ = some (.slice a8 (k + k) c8) := cel (kb HP9.out hbx) 1
                    have HBx := Lib.hid (tr3 HB9.out hbx)
                    have hfs := str_size b
                    clear hbx HW9 HP9 HB9 HO8
                    by_cases hbig : 16 < k + k
                    · have hg : (16 : Int) < ((k + k : Nat) : Int) := by omega
                      have hpe := prE_big HR.out (by rw [hlL]; exact hbig)
                      have hps : prS m0 (L0 ++ L0) = [] := by unfold prS; rw [if_neg (by rw [hpe]; decide)]
                      rw [hps, hpe]
                      clear hpe hps
                      go_wp2_with fail
                      go_ret
                      exact ⟨by first | rfl | simp, tr3 (tr3 HB.out HBx.out) (by go_grown)⟩
                    · have hg : ¬ (16 : Int) < ((k + k : Nat) : Int) := by omega
                      have hpe := prE_dbl HR.out (by rw [hlL]; exact hbig)
                      have hps : prS m0 (L0 ++ L0) = prB m0 (L0 ++ L0) := by unfold prS; rw [if_pos hpe]
                      have htl := prB_two m0 L0
                      rw [HL.out] at htl
                      rw [hps, hpe]
                      obtain ⟨t, ht⟩ : ∃ t, prB m0 (L0 ++ L0) = t := ⟨_, rfl⟩
                      rw [ht] at htl ⊢
                      have htI : (t.length : Int) = 2 * (b.length : Int) - 6 := by omega
                      have htb : t.length ≤ 200000 := by omega
                      have hft := str_size t
                      clear hpe hps ht htl
                      go_wp2_with fail
                      go_ret
                      exact ⟨by first | rfl | simp, tr3 (tr3 HB.out HBx.out) (by go_grown)⟩
                  exact AllReady.nil
                exact AllReady.nil
              exact AllReady.nil
            refine AllReady.cons rfl (fun K hK => ?_) ?_
            · go_simp
              refine (own_v m0 a0 _ c0 L0 w6.drew (HM.out.below (tr3 (tr3 HB.out HB6.out) (by go_grown))) HS.out).mono ?_
              rintro e w7 ⟨v7, rows7, rfl, ho7, hb7⟩
              obtain ⟨a7, c7, rfl, _⟩ := ho7.pm.form
              rw [hlL] at ho7 ⊢
              have hq1 : w7.cell? ⟨w5.heap.size, 1, none⟩ = some (.slice a5 k c5) := cel (kb HP6.out (tr3 (by go_grown) hb7)) 1
              have HB67 : Below w6.heap.size w6 w7 := Below.trans (by go_grown) hb7
              refine hK _ _ ?_
              clear hK K
              refine wpAny_take (i := 4) (v := ?_) rfl (by kernel_rfl) (by kernel_rfl) (by kernel_rfl) (fun _ _ _ h => h) (Or.inl ⟨by rfl, ?_⟩) ?_
              rotate_left
              · intro w9; go_simp; first | done | (with_reducible rfl) | (simp [Instr.field, go_sem, Try.underlying24]; done) | (simp [Instr.field, go_sem, Try.underlying24]; rfl) | rfl | trace_state
              refine wpAny_ready (rs := [1]) (by kernel_rfl) (by simp) ?_
              refine AllReady.cons rfl (fun K hK => ?_) ?_
              · go_simp
                refine hK _ _ ?_
                clear hK K
                refine wpAny_ready (rs := [5]) (by kernel_rfl) (by simp) ?_
                refine AllReady.cons rfl (fun K hK => ?_) ?_
                · refine step_appPP rfl (.tmp 44) (.tmp 47) (by rfl) (wr.heap.size + 3) (w6.drew.heap.size + 3) (.slice a5 k c5) (.slice a7 k c7) rows5 rows7 L0 L0 rfl rfl (HO6.out.below HB67) ho7 (by show wr.heap.size + 3 ≤ w6.heap.size + 3; omega) (by omega) (by omega) (by omega) (by have := HB67.size; omega) ?_
                  intro v8 w8 ho8 hg8 hor8
                  obtain ⟨a8, c8, rfl, hle8⟩ := ho8.pm.form
                  have hl8 : (L0 ++ L0).length = k + k := by rw [List.length_append, hlL]
                  rw [hl8] at ho8 hle8 hor8 ⊢
                  have hne8 : ∀ q, q = w5.heap.size → some q ≠ (Value.slice a5 k c5).ownBlock := fun q hq e => by have := ho5l q e.symm; omega
                  have h78 := HB67.size
                  have HP8 := Lib.hid ((hg8.block w5.heap.size (by omega) (hne8 _ rfl)).trans (kb HP6.out HB67))
                  have HB8 := Lib.hid ((tr3 HB6.out HB67).grown hg8 (by omega) (fun q e => by have := ho5l q e; omega))
                  have HO8 := Lib.hid ((ho8.keepx (g := w5.heap.size) (w' := w8.setCell ⟨w5.heap.size, 1, none⟩ (.slice a8 (k + k) c8)) (by
                    intro e
                    rcases hor8 with h | h
                    · exact hne8 _ rfl (by rw [← h, e])
                    · rw [e] at h
                      have := Option.some.inj h
                      omega) (by
                    intro i u hu e
                    by_cases hi : i < rows5.length
                    · rw [List.getElem?_append_left hi] at hu
                      have := ho5r i u hu _ e
                      omega
                    · rw [List.getElem?_append_right (by omega)] at hu
                      have := ho7.rows_lt _ u hu _ e
                      have h9 : w6.drew.heap.size = w6.heap.size := rfl
                      omega) (fun q hq => set_oth _ _ _ _ _ hq)).pm)
                  have hq8 : w8.cell? ⟨w5.heap.size, 1, none⟩ = some (.slice a5 k c5) := cel HP8.out 1
                  have hf8 : w8.frozen? ⟨w5.heap.size, 1, none⟩ = false := frz HP8.out 1
                  clear ho8 hg8 hor8 hne8 ho7 hq1
                  refine hK _ _ ?_
                  clear hK K
                  refine wpAny_take (i := 6) (v := ?_) rfl (by kernel_rfl) (by kernel_rfl) (by kernel_rfl) (fun _ _ _ h => h) (Or.inl ⟨by rfl, ?_⟩) ?_
                  rotate_left
                  · intro w9; go_simp; try with_reducible rfl
                  refine wpAny_ready (rs := [7]) (by kernel_rfl) (by simp) ?_
                  refine AllReady.cons rfl (fun K hK => ?_) ?_
                  · go_simp
                    refine hK _ _ ?_
                    clear hK K
                    refine wpAny_done (by kernel_rfl) ?_ _
                    obtain ⟨w9, hw9⟩ : ∃ w9, w8.setCell ⟨w5.heap.size, 1, none⟩ (.slice a8 (k + k) c8) = w9 := ⟨_, rfl⟩
                    have hp9 : w9.heap[w5.heap.size]? = some (.cells #[.int .i64 m0, .slice a8 (k + k) c8] 24 (0, 0)) := by
                      rw [← hw9]; exact set_blk _ _ _ _ HP8.out
                    have hb9 : Below W.heap.size W w9 := by
                      rw [← hw9]; exact HB8.out.setCell (p := ⟨w5.heap.size, 1, none⟩) (by show W.heap.size ≤ w5.heap.size; omega) _
                    rw [hw9] at HO8
                    have d0 : (w8.setCell ⟨w5.heap.size, 1, none⟩ (.slice a8 (k + k) c8)).cell? ⟨w5.heap.size, 0, none⟩ = some (.int .i64 m0) := by rw [hw9]; exact cel hp9 0
                    have d1 : (w8.setCell ⟨w5.heap.size, 1, none⟩ (.slice a8 (k + k) c8)).cell? ⟨w5.heap.size, 1, none⟩ = some (.slice a8 (k + k) c8) := by rw [hw9]; exact cel hp9 1
                    have HW9 := Lib.hid hw9
                    have HP9 := Lib.hid hp9
                    have HB9 := Lib.hid hb9
                    clear hq8 hf8 p0 p1 q1 HP8 HB8 hw9 hp9 hb9 ho5l ho5r
                    go_wp2_with fail
                    rw [HW9.out]
                    clear d0 d1
                    refine (pput_any m0 a8 _ c8 (L0 ++ L0) w9 HO8.out).mono ?_
                    rintro e wx ⟨rfl, hbx⟩
                    have e1 : wx.cell? ⟨w5.heap.size, 1, none⟩ = some (.slice a8 (k + k) c8) := cel (kb HP9.out hbx) 1
                    have HBx := Lib.hid (tr3 HB9.out hbx)
                    have hfs := str_size b
                    clear hbx HW9 HP9 HB9 HO8
                    by_cases hbig : 16 < k + k
                    · have hg : (16 : Int) < ((k + k : Nat) : Int) := by omega
                      have hpe := prE_big HR.out (by rw [hlL]; exact hbig)
                      have hps : prS m0 (L0 ++ L0) = [] := by unfold prS; rw [if_neg (by rw [hpe]; decide)]
                      rw [hps, hpe]
                      clear hpe hps
                      go_wp2_with fail
                      go_ret
                      exact ⟨by first | rfl | simp, tr3 (tr3 HB.out HBx.out) (by go_grown)⟩
                    · have hg : ¬ (16 : Int) < ((k + k : Nat) : Int) := by omega
                      have hpe := prE_dbl HR.out (by rw [hlL]; exact hbig)
                      have hps : prS m0 (L0 ++ L0) = prB m0 (L0 ++ L0) := by unfold prS; rw [if_pos hpe]
                      have htl := prB_two m0 L0
                      rw [HL.out] at htl
                      rw [hps, hpe]
                      obtain ⟨t, ht⟩ : ∃ t, prB m0 (L0 ++ L0) = t := ⟨_, rfl⟩
                      rw [ht] at htl ⊢
                      have htI : (t.length : Int) = 2 * (b.length : Int) - 6 := by omega
                      have htb : t.length ≤ 200000 := by omega
                      have hft := str_size t
                      clear hpe hps ht htl
                      go_wp2_with fail
                      go_ret
                      exact ⟨by first | rfl | simp, tr3 (tr3 HB.out HBx.out) (by go_grown)⟩
                  exact AllReady.nil
                exact AllReady.nil
              exact AllReady.nil
            exact AllReady.nil
          exact AllReady.nil
    · have hs : prS m0 L0 = [] := by unfold prS; rw [if_neg (by rw [hr]; exact h0)]
      rw [hs, hr]
      have hcb : (r == 0) = false := by simpa using h0
      have hcn : (r != 0) = true := by simpa using h0
      clear hr
      go_wp2_with fail
      go_ret
      exact ⟨by simp, tr3 (tr3 HB.out HB4.out) (by go_grown)⟩
end Go.Proofs.Ythllikmnlnakkaa.progSizes
