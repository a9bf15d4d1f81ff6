/- A program in memory of its own (layer 4). -/
import Derived.Test.YthllikmnlnakkaaPrO
namespace Go.Proofs.Ythllikmnlnakkaa.pr
open Go.ChangeShapes Go.WideShapes Go.ChangeAt Go.RowKit
open Go.Proofs.Ythllikmnlnakkaa.bin Go.Proofs.Ythllikmnlnakkaa.bits Go.Proofs.Ythllikmnlnakkaa.ins
set_option linter.unusedVariables false
set_option linter.unusedSimpArgs false
theorem res_p1 {fn : Func} {A : Array Value} {W : World} {g : Nat} {a b : Value} {T : TypeId} (hfn : fn.results = #[.cell 2 24]) (h2 : A.getD 2 undef = .pointer (some ⟨g, 0, none⟩)) (hF : W.heap[g]? = some (.cells #[a, b] T (0, 0))) :
    (results fn A).run Try.prog W = .ok (.agg #[a, b]) W := by
  rw [Array.getD_eq_getD_getElem?] at h2
  have c0 : W.cell? ⟨g, 0, none⟩ = some a := cel hF 0
  have c1 : W.cell? ⟨g, 1, none⟩ = some b := cel hF 1
  simp [results, hfn, h2, go_sem, c0, c1]
set_option maxRecDepth 20000 in
set_option maxHeartbeats 4000000 in
theorem own_v (m : Int) (a : Option Addr) (n c : Nat) (L : List (List I4)) (w : World) (h : PM w (.slice a n c) L) (hS : Sm L) :
    Calls Try.prog 11 #[.agg #[.int .i64 m, .slice a n c]] w fun e w' => ∃ v rows, e = .returned (.agg #[.int .i64 m, v]) ∧ OP w' (w.heap.size + 3) v rows L ∧ Below w.heap.size w w' := by
  obtain ⟨hnl, hnc, hcm⟩ := h.len
  unfold maxLen at hcm
  have hn40 : n ≤ 40 := by rw [hnl]; exact hS.1
  have HR0 := Lib.hid h
  have HNL := Lib.hid hnl
  have HSM := Lib.hid hS.2
  have hI := HO.init w m (.slice a n c)
  obtain ⟨W, hW⟩ : ∃ W, (((w.alloc (.cells #[.int .i64 m, .slice a n c] 24)).alloc (.cells #[.int .i64 0, .slice none 0 0] 24)).alloc (.cells #[.int .i64 m, .slice none 0 0] 24)) = W := ⟨_, rfl⟩
  rw [hW] at hI
  have HW := Lib.hid hW
  have h0 : Hid (HO w W m (.slice a n c) (.slice none 0 0) [] (L.take 0)) := Lib.hid hI
  clear h hnl hW hI hS
  go_enter Try.func11, Try.ntmps11
  go_wp2_with fail
  rw [HW.out]
  clear HW
  go_loopw [4] (fun i wr => ∃ (k : Nat) (v : Value) (rows : List Value), i = .int .i64 (k : Int) ∧ k ≤ n ∧ Hid (HO w wr m (.slice a n c) v rows (L.take k))) (fun i _ => n - (intOf i).toNat)
  case atStart => exact ⟨0, _, _, rfl, by omega, h0⟩
  case round =>
    clear h0
    obtain ⟨k, v, rows, rfl, hk, HO1⟩ := hrel
    obtain ⟨d0, d1, e0, e1⟩ := cel2 HO1.out.r0
    clear e0 e1
    by_cases hlt : k < n
    · obtain ⟨b, o, ai, ci, rfl, hbl, z0, hrow⟩ := HR0.out.row k hlt
      have hl3 : (L.getD k []).length ≤ 300 := HSM.out k (by rw [← HNL.out]; exact hlt)
      have htk : L.take (k + 1) = L.take k ++ [L.getD k []] := by
        rw [List.take_add_one, List.getD_eq_getElem?_getD, List.getElem?_eq_getElem (by rw [← HNL.out]; exact hlt)]; simp
      obtain ⟨l, hl⟩ : ∃ l, L.getD k [] = l := ⟨_, rfl⟩
      rw [hl] at z0 hrow hl3 htk
      have HTK := Lib.hid htk
      have HRW := Lib.hid hrow
      have HZ := Lib.hid z0
      have htl : (L.take k).length ≤ 100000 := by rw [List.length_take]; omega
      have hplI : (k : Int) < (n : Int) := by omega
      obtain ⟨acc, hacc⟩ : ∃ acc, L.take k = acc := ⟨_, rfl⟩
      rw [hacc] at HO1 HTK htl
      have HGo : Hid (∀ w' : World, Below wr.heap.size wr w' → HO w w' m (.slice (some ⟨b, o, none⟩) n c) v rows acc) := Lib.hid fun w' hb => HO1.out.below hb
      have HRV : Hid (∀ w' : World, Below wr.heap.size wr w' → RV 4 enI w' (.slice ai l.length ci) l) := Lib.hid fun w' hb => HRW.out.below (HO1.out.below hb).bel
      have HSr : Hid (∀ (w' : World) (x y : Value), w'.heap[w.heap.size]? = some (.cells #[.int .i64 m, .slice (some ⟨b, o, none⟩) n c] 24 (0, 0)) → w'.heap[w.heap.size + 2]? = some (.cells #[x, y] 24 (0, 0)) → Below w.heap.size w w' → w'.cell? ⟨w.heap.size, 1, none⟩ = some (.slice (some ⟨b, o, none⟩) n c) ∧ w'.cell? ⟨b, o + k, none⟩ = some (.slice ai l.length ci) ∧ w'.cell? ⟨w.heap.size + 2, 1, none⟩ = some y ∧ w'.frozen? ⟨w.heap.size + 2, 1, none⟩ = false) := Lib.hid fun w' x y h0 h2 hb => by
        exact ⟨cel h0 1, kc HZ.out hb, cel h2 1, frz h2 1⟩
      have HSg : Hid (∀ w' : World, Below wr.heap.size wr w' → w'.cell? ⟨w.heap.size, 1, none⟩ = some (.slice (some ⟨b, o, none⟩) n c) ∧ w'.cell? ⟨b, o + k, none⟩ = some (.slice ai l.length ci) ∧ w'.cell? ⟨w.heap.size + 2, 1, none⟩ = some v ∧ w'.frozen? ⟨w.heap.size + 2, 1, none⟩ = false) := Lib.hid fun w' hb => HSr.out w' _ _ (HO1.out.below hb).r0 (HO1.out.below hb).r2 (HO1.out.below hb).bel
      have hwl : w.heap.size + 3 ≤ wr.heap.size := HO1.out.lt
      clear htk hl hacc z0 hrow HZ HRW
      go_wp2_with fail
      clear d0 d1
      have p1 : wr.cell? ⟨w.heap.size, 1, none⟩ = some (.slice (some ⟨b, o, none⟩) n c) := cel HO1.out.r0 1
      have p2 : wr.cell? ⟨w.heap.size + 1 + 1, 1, none⟩ = some v := cel HO1.out.r2 1
      have p3 : wr.cell? ⟨b, o + k, none⟩ = some (.slice ai l.length ci) := (HSg.out _ (Below.refl _ _)).2.1
      have q2 : ∀ w', Below wr.heap.size wr w' → w'.cell? ⟨w.heap.size + 1 + 1, 1, none⟩ = some v := fun w' hb => cel (HGo.out w' hb).r2 1
      have hw2 : ∀ w', Below wr.heap.size wr w' → w'.cell? ⟨w.heap.size, 1, none⟩ = some (.slice (some ⟨b, o, none⟩) n c) ∧ w'.cell? ⟨b, o + k, none⟩ = some (.slice ai l.length ci) ∧ w'.cell? ⟨w.heap.size + 1 + 1, 1, none⟩ = some v := fun w' hb => ⟨(HSg.out w' hb).1, (HSg.out w' hb).2.1, (HSg.out w' hb).2.2.1⟩
      obtain ⟨s1, s2, s3⟩ := hw2 wr.drew (by go_grown)
      obtain ⟨t1, t2, t3⟩ := hw2 ((wr.alloc (.cells #[] 40)).drew) (by go_grown)
      obtain ⟨t4, t5, t6⟩ := hw2 ((wr.alloc (.cells #[] 40))) (by go_grown)
      obtain ⟨t7, t8, t9⟩ := hw2 ((wr.drew.alloc (.cells #[] 40))) (by go_grown)
      refine wp_region_any (by kernel_rfl) ?_
      change wpAny _ _ _ _ _ _ _ (World.drew _)
      refine wpAny_take (i := 0) (v := ?_) rfl (by kernel_rfl) (by kernel_rfl) (by kernel_rfl) (fun _ _ _ h => h) (Or.inl ⟨by rfl, ?_⟩) ?_
      rotate_left
      · intro w9; go_simp; try with_reducible rfl
      refine wpAny_take (i := 3) (v := ?_) rfl (by kernel_rfl) (by kernel_rfl) (by kernel_rfl) (fun _ _ _ h => h) (Or.inl ⟨by rfl, ?_⟩) ?_
      rotate_left
      · intro w9; go_simp; try with_reducible rfl
      refine wpAny_take (i := 5) (v := ?_) rfl (by kernel_rfl) (by kernel_rfl) (by kernel_rfl) (fun _ _ _ h => h) (Or.inl ⟨by rfl, ?_⟩) ?_
      rotate_left
      · intro w9; go_simp; try with_reducible rfl
      refine wpAny_ready (rs := [1, 2, 4]) (by kernel_rfl) (by simp) ?_
      refine AllReady.cons rfl (fun K hK => ?_) ?_
      · go_simp
        refine hK _ _ ?_
        clear hK K
        refine wpAny_ready (rs := [2, 4]) (by kernel_rfl) (by simp) ?_
        refine AllReady.cons rfl (fun K hK => ?_) ?_
        · go_simp
          refine hK _ _ ?_
          clear hK K
          refine wpAny_ready (rs := [4]) (by kernel_rfl) (by simp) ?_
          refine AllReady.cons rfl (fun K hK => ?_) ?_
          · go_simp
            refine hK _ _ ?_
            clear hK K
            refine wpAny_take (i := 6) (v := ?_) rfl (by kernel_rfl) (by kernel_rfl) (by kernel_rfl) (fun _ _ _ h => h) (Or.inl ⟨by rfl, ?_⟩) ?_
            rotate_left
            · intro w9; go_simp; try with_reducible rfl
            refine wpAny_ready (rs := [7]) (by kernel_rfl) (by simp) ?_
            refine AllReady.cons rfl (fun K hK => ?_) ?_
            · go_simp
              refine hK _ _ ?_
              clear hK K
              refine wpAny_ready (rs := [8]) (by kernel_rfl) (by simp) ?_
              refine AllReady.cons rfl (fun K hK => ?_) ?_
              · refine step_copyR rfl _ _ 38 40 _ 32 (by rfl) Try.underlying38 infoI rfl (by decide) recI wr.heap.size wr.heap.size l (.slice ai l.length ci) rfl (heap_new wr #[] 40) (Nat.le_refl _) rfl (HRV.out _ (by go_grown)) (by omega) ?_
                intro v2 w2 ho2 hb2
                obtain ⟨va2, vc2, rfl⟩ := ho2.out.form
                have hb3 : Below wr.heap.size wr w2 := Below.trans (by go_grown) hb2
                obtain ⟨u1, u2, u3⟩ := hw2 w2 hb3
                obtain ⟨u4, u5, u6⟩ := hw2 (w2.alloc (.cells #[.slice va2 l.length vc2] 38)) (tr3 hb3 (by go_grown))
                refine hK _ _ ?_
                clear hK K
                refine wpAny_ready (rs := [9]) (by kernel_rfl) (by simp) ?_
                refine AllReady.cons rfl (fun K hK => ?_) ?_
                · go_simp
                  refine hK _ _ ?_
                  clear hK K
                  refine wpAny_ready (rs := [10]) (by kernel_rfl) (by simp) ?_
                  refine AllReady.cons rfl (fun K hK => ?_) ?_
                  · refine step_appP rfl _ _ (by rfl) (w.heap.size + 3) v rows acc ⟨w2.heap.size, 0, none⟩ 1 (.slice va2 l.length vc2) l rfl rfl (HGo.out _ (tr3 hb3 (by go_grown))).own (by go_simp) (OR.mono (ho2.out.below (by go_grown)) (by omega)) rfl (by omega) (HGo.out _ (tr3 hb3 (by go_grown))).lt ?_
                    intro v3 w3 ho3 hg3
                    obtain ⟨va3, vc3, rfl, _⟩ := ho3.pm.form
                    have hA := (HGo.out _ (tr3 hb3 (by go_grown))).app hg3 ho3
                    have hlen : (acc ++ [l]).length = acc.length + 1 := by simp
                    rw [hlen] at hA
                    obtain ⟨n0, n1, n2, n3⟩ := cel2 hA.2.2.1
                    have n1' : w3.cell? ⟨w.heap.size + 1 + 1, 1, none⟩ = some v := n1
                    have n3' : w3.frozen? ⟨w.heap.size + 1 + 1, 1, none⟩ = false := n3
                    refine hK _ _ ?_
                    clear hK K
                    refine wpAny_take (i := 11) (v := ?_) rfl (by kernel_rfl) (by kernel_rfl) (by kernel_rfl) (fun _ _ _ h => h) (Or.inl ⟨by rfl, ?_⟩) ?_
                    rotate_left
                    · intro w9; go_simp; try with_reducible rfl
                    refine wpAny_ready (rs := [12]) (by kernel_rfl) (by simp) ?_
                    refine AllReady.cons rfl (fun K hK => ?_) ?_
                    · go_simp
                      refine hK _ _ ?_
                      clear hK K
                      refine wpAny_done (by kernel_rfl) ?_ _
                      have HA := Lib.hid hA.1
                      rw [← HTK.out] at HA
                      clear hA hw2
                      go_wp2_with fail
                      go_roundw
                      case rel => exact ⟨k + 1, _, _, by go_num, by omega, HA⟩
                      case measure => simp [intOf]; omega
                    exact AllReady.nil
                  exact AllReady.nil
                exact AllReady.nil
              exact AllReady.nil
            exact AllReady.nil
          exact AllReady.nil
        refine AllReady.cons rfl (fun K hK => ?_) ?_
        · go_simp
          refine hK _ _ ?_
          clear hK K
          refine wpAny_take (i := 6) (v := ?_) rfl (by kernel_rfl) (by kernel_rfl) (by kernel_rfl) (fun _ _ _ h => h) (Or.inl ⟨by rfl, ?_⟩) ?_
          rotate_left
          · intro w9; go_simp; try with_reducible rfl
          refine wpAny_ready (rs := [2, 7]) (by kernel_rfl) (by simp) ?_
          refine AllReady.cons rfl (fun K hK => ?_) ?_
          · go_simp
            refine hK _ _ ?_
            clear hK K
            refine wpAny_ready (rs := [7]) (by kernel_rfl) (by simp) ?_
            refine AllReady.cons rfl (fun K hK => ?_) ?_
            · go_simp
              refine hK _ _ ?_
              clear hK K
              refine wpAny_ready (rs := [8]) (by kernel_rfl) (by simp) ?_
              refine AllReady.cons rfl (fun K hK => ?_) ?_
              · refine step_copyR rfl _ _ 38 40 _ 32 (by rfl) Try.underlying38 infoI rfl (by decide) recI wr.heap.size wr.heap.size l (.slice ai l.length ci) rfl (heap_new wr #[] 40) (Nat.le_refl _) rfl (HRV.out _ (by go_grown)) (by omega) ?_
                intro v2 w2 ho2 hb2
                obtain ⟨va2, vc2, rfl⟩ := ho2.out.form
                have hb3 : Below wr.heap.size wr w2 := Below.trans (by go_grown) hb2
                obtain ⟨u1, u2, u3⟩ := hw2 w2 hb3
                obtain ⟨u4, u5, u6⟩ := hw2 (w2.alloc (.cells #[.slice va2 l.length vc2] 38)) (tr3 hb3 (by go_grown))
                refine hK _ _ ?_
                clear hK K
                refine wpAny_ready (rs := [9]) (by kernel_rfl) (by simp) ?_
                refine AllReady.cons rfl (fun K hK => ?_) ?_
                · go_simp
                  refine hK _ _ ?_
                  clear hK K
                  refine wpAny_ready (rs := [10]) (by kernel_rfl) (by simp) ?_
                  refine AllReady.cons rfl (fun K hK => ?_) ?_
                  · refine step_appP rfl _ _ (by rfl) (w.heap.size + 3) v rows acc ⟨w2.heap.size, 0, none⟩ 1 (.slice va2 l.length vc2) l rfl rfl (HGo.out _ (tr3 hb3 (by go_grown))).own (by go_simp) (OR.mono (ho2.out.below (by go_grown)) (by omega)) rfl (by omega) (HGo.out _ (tr3 hb3 (by go_grown))).lt ?_
                    intro v3 w3 ho3 hg3
                    obtain ⟨va3, vc3, rfl, _⟩ := ho3.pm.form
                    have hA := (HGo.out _ (tr3 hb3 (by go_grown))).app hg3 ho3
                    have hlen : (acc ++ [l]).length = acc.length + 1 := by simp
                    rw [hlen] at hA
                    obtain ⟨n0, n1, n2, n3⟩ := cel2 hA.2.2.1
                    have n1' : w3.cell? ⟨w.heap.size + 1 + 1, 1, none⟩ = some v := n1
                    have n3' : w3.frozen? ⟨w.heap.size + 1 + 1, 1, none⟩ = false := n3
                    refine hK _ _ ?_
                    clear hK K
                    refine wpAny_take (i := 11) (v := ?_) rfl (by kernel_rfl) (by kernel_rfl) (by kernel_rfl) (fun _ _ _ h => h) (Or.inl ⟨by rfl, ?_⟩) ?_
                    rotate_left
                    · intro w9; go_simp; try with_reducible rfl
                    refine wpAny_ready (rs := [12]) (by kernel_rfl) (by simp) ?_
                    refine AllReady.cons rfl (fun K hK => ?_) ?_
                    · go_simp
                      refine hK _ _ ?_
                      clear hK K
                      refine wpAny_done (by kernel_rfl) ?_ _
                      have HA := Lib.hid hA.1
                      rw [← HTK.out] at HA
                      clear hA hw2
                      go_wp2_with fail
                      go_roundw
                      case rel => exact ⟨k + 1, _, _, by go_num, by omega, HA⟩
                      case measure => simp [intOf]; omega
                    exact AllReady.nil
                  exact AllReady.nil
                exact AllReady.nil
              exact AllReady.nil
            exact AllReady.nil
          refine AllReady.cons rfl (fun K hK => ?_) ?_
          · go_simp
            refine hK _ _ ?_
            clear hK K
            refine wpAny_ready (rs := [2]) (by kernel_rfl) (by simp) ?_
            refine AllReady.cons rfl (fun K hK => ?_) ?_
            · go_simp
              refine hK _ _ ?_
              clear hK K
              refine wpAny_ready (rs := [8]) (by kernel_rfl) (by simp) ?_
              refine AllReady.cons rfl (fun K hK => ?_) ?_
              · refine step_copyR rfl _ _ 38 40 _ 32 (by rfl) Try.underlying38 infoI rfl (by decide) recI wr.heap.size wr.heap.size l (.slice ai l.length ci) rfl (heap_new wr #[] 40) (Nat.le_refl _) rfl (HRV.out _ (by go_grown)) (by omega) ?_
                intro v2 w2 ho2 hb2
                obtain ⟨va2, vc2, rfl⟩ := ho2.out.form
                have hb3 : Below wr.heap.size wr w2 := Below.trans (by go_grown) hb2
                obtain ⟨u1, u2, u3⟩ := hw2 w2 hb3
                obtain ⟨u4, u5, u6⟩ := hw2 (w2.alloc (.cells #[.slice va2 l.length vc2] 38)) (tr3 hb3 (by go_grown))
                refine hK _ _ ?_
                clear hK K
                refine wpAny_ready (rs := [9]) (by kernel_rfl) (by simp) ?_
                refine AllReady.cons rfl (fun K hK => ?_) ?_
                · go_simp
                  refine hK _ _ ?_
                  clear hK K
                  refine wpAny_ready (rs := [10]) (by kernel_rfl) (by simp) ?_
                  refine AllReady.cons rfl (fun K hK => ?_) ?_
                  · refine step_appP rfl _ _ (by rfl) (w.heap.size + 3) v rows acc ⟨w2.heap.size, 0, none⟩ 1 (.slice va2 l.length vc2) l rfl rfl (HGo.out _ (tr3 hb3 (by go_grown))).own (by go_simp) (OR.mono (ho2.out.below (by go_grown)) (by omega)) rfl (by omega) (HGo.out _ (tr3 hb3 (by go_grown))).lt ?_
                    intro v3 w3 ho3 hg3
                    obtain ⟨va3, vc3, rfl, _⟩ := ho3.pm.form
                    have hA := (HGo.out _ (tr3 hb3 (by go_grown))).app hg3 ho3
                    have hlen : (acc ++ [l]).length = acc.length + 1 := by simp
                    rw [hlen] at hA
                    obtain ⟨n0, n1, n2, n3⟩ := cel2 hA.2.2.1
                    have n1' : w3.cell? ⟨w.heap.size + 1 + 1, 1, none⟩ = some v := n1
                    have n3' : w3.frozen? ⟨w.heap.size + 1 + 1, 1, none⟩ = false := n3
                    refine hK _ _ ?_
                    clear hK K
                    refine wpAny_take (i := 11) (v := ?_) rfl (by kernel_rfl) (by kernel_rfl) (by kernel_rfl) (fun _ _ _ h => h) (Or.inl ⟨by rfl, ?_⟩) ?_
                    rotate_left
                    · intro w9; go_simp; try with_reducible rfl
                    refine wpAny_ready (rs := [12]) (by kernel_rfl) (by simp) ?_
                    refine AllReady.cons rfl (fun K hK => ?_) ?_
                    · go_simp
                      refine hK _ _ ?_
                      clear hK K
                      refine wpAny_done (by kernel_rfl) ?_ _
                      have HA := Lib.hid hA.1
                      rw [← HTK.out] at HA
                      clear hA hw2
                      go_wp2_with fail
                      go_roundw
                      case rel => exact ⟨k + 1, _, _, by go_num, by omega, HA⟩
                      case measure => simp [intOf]; omega
                    exact AllReady.nil
                  exact AllReady.nil
                exact AllReady.nil
              exact AllReady.nil
            exact AllReady.nil
          exact AllReady.nil
        exact AllReady.nil
      refine AllReady.cons rfl (fun K hK => ?_) ?_
      · go_simp
        refine hK _ _ ?_
        clear hK K
        refine wpAny_ready (rs := [1, 4]) (by kernel_rfl) (by simp) ?_
        refine AllReady.cons rfl (fun K hK => ?_) ?_
        · go_simp
          refine hK _ _ ?_
          clear hK K
          refine wpAny_ready (rs := [4]) (by kernel_rfl) (by simp) ?_
          refine AllReady.cons rfl (fun K hK => ?_) ?_
          · go_simp
            refine hK _ _ ?_
            clear hK K
            refine wpAny_take (i := 6) (v := ?_) rfl (by kernel_rfl) (by kernel_rfl) (by kernel_rfl) (fun _ _ _ h => h) (Or.inl ⟨by rfl, ?_⟩) ?_
            rotate_left
            · intro w9; go_simp; try with_reducible rfl
            refine wpAny_ready (rs := [7]) (by kernel_rfl) (by simp) ?_
            refine AllReady.cons rfl (fun K hK => ?_) ?_
            · go_simp
              refine hK _ _ ?_
              clear hK K
              refine wpAny_ready (rs := [8]) (by kernel_rfl) (by simp) ?_
              refine AllReady.cons rfl (fun K hK => ?_) ?_
              · refine step_copyR rfl _ _ 38 40 _ 32 (by rfl) Try.underlying38 infoI rfl (by decide) recI wr.heap.size wr.heap.size l (.slice ai l.length ci) rfl (heap_new wr #[] 40) (Nat.le_refl _) rfl (HRV.out _ (by go_grown)) (by omega) ?_
                intro v2 w2 ho2 hb2
                obtain ⟨va2, vc2, rfl⟩ := ho2.out.form
                have hb3 : Below wr.heap.size wr w2 := Below.trans (by go_grown) hb2
                obtain ⟨u1, u2, u3⟩ := hw2 w2 hb3
                obtain ⟨u4, u5, u6⟩ := hw2 (w2.alloc (.cells #[.slice va2 l.length vc2] 38)) (tr3 hb3 (by go_grown))
                refine hK _ _ ?_
                clear hK K
                refine wpAny_ready (rs := [9]) (by kernel_rfl) (by simp) ?_
                refine AllReady.cons rfl (fun K hK => ?_) ?_
                · go_simp
                  refine hK _ _ ?_
                  clear hK K
                  refine wpAny_ready (rs := [10]) (by kernel_rfl) (by simp) ?_
                  refine AllReady.cons rfl (fun K hK => ?_) ?_
                  · refine step_appP rfl _ _ (by rfl) (w.heap.size + 3) v rows acc ⟨w2.heap.size, 0, none⟩ 1 (.slice va2 l.length vc2) l rfl rfl (HGo.out _ (tr3 hb3 (by go_grown))).own (by go_simp) (OR.mono (ho2.out.below (by go_grown)) (by omega)) rfl (by omega) (HGo.out _ (tr3 hb3 (by go_grown))).lt ?_
                    intro v3 w3 ho3 hg3
                    obtain ⟨va3, vc3, rfl, _⟩ := ho3.pm.form
                    have hA := (HGo.out _ (tr3 hb3 (by go_grown))).app hg3 ho3
                    have hlen : (acc ++ [l]).length = acc.length + 1 := by simp
                    rw [hlen] at hA
                    obtain ⟨n0, n1, n2, n3⟩ := cel2 hA.2.2.1
                    have n1' : w3.cell? ⟨w.heap.size + 1 + 1, 1, none⟩ = some v := n1
                    have n3' : w3.frozen? ⟨w.heap.size + 1 + 1, 1, none⟩ = false := n3
                    refine hK _ _ ?_
                    clear hK K
                    refine wpAny_take (i := 11) (v := ?_) rfl (by kernel_rfl) (by kernel_rfl) (by kernel_rfl) (fun _ _ _ h => h) (Or.inl ⟨by rfl, ?_⟩) ?_
                    rotate_left
                    · intro w9; go_simp; try with_reducible rfl
                    refine wpAny_ready (rs := [12]) (by kernel_rfl) (by simp) ?_
                    refine AllReady.cons rfl (fun K hK => ?_) ?_
                    · go_simp
                      refine hK _ _ ?_
                      clear hK K
                      refine wpAny_done (by kernel_rfl) ?_ _
                      have HA := Lib.hid hA.1
                      rw [← HTK.out] at HA
                      clear hA hw2
                      go_wp2_with fail
                      go_roundw
                      case rel => exact ⟨k + 1, _, _, by go_num, by omega, HA⟩
                      case measure => simp [intOf]; omega
                    exact AllReady.nil
                  exact AllReady.nil
                exact AllReady.nil
              exact AllReady.nil
            exact AllReady.nil
          exact AllReady.nil
        refine AllReady.cons rfl (fun K hK => ?_) ?_
        · go_simp
          refine hK _ _ ?_
          clear hK K
          refine wpAny_take (i := 6) (v := ?_) rfl (by kernel_rfl) (by kernel_rfl) (by kernel_rfl) (fun _ _ _ h => h) (Or.inl ⟨by rfl, ?_⟩) ?_
          rotate_left
          · intro w9; go_simp; try with_reducible rfl
          refine wpAny_ready (rs := [1, 7]) (by kernel_rfl) (by simp) ?_
          refine AllReady.cons rfl (fun K hK => ?_) ?_
          · go_simp
            refine hK _ _ ?_
            clear hK K
            refine wpAny_ready (rs := [7]) (by kernel_rfl) (by simp) ?_
            refine AllReady.cons rfl (fun K hK => ?_) ?_
            · go_simp
              refine hK _ _ ?_
              clear hK K
              refine wpAny_ready (rs := [8]) (by kernel_rfl) (by simp) ?_
              refine AllReady.cons rfl (fun K hK => ?_) ?_
              · refine step_copyR rfl _ _ 38 40 _ 32 (by rfl) Try.underlying38 infoI rfl (by decide) recI wr.heap.size wr.heap.size l (.slice ai l.length ci) rfl (heap_new wr #[] 40) (Nat.le_refl _) rfl (HRV.out _ (by go_grown)) (by omega) ?_
                intro v2 w2 ho2 hb2
                obtain ⟨va2, vc2, rfl⟩ := ho2.out.form
                have hb3 : Below wr.heap.size wr w2 := Below.trans (by go_grown) hb2
                obtain ⟨u1, u2, u3⟩ := hw2 w2 hb3
                obtain ⟨u4, u5, u6⟩ := hw2 (w2.alloc (.cells #[.slice va2 l.length vc2] 38)) (tr3 hb3 (by go_grown))
                refine hK _ _ ?_
                clear hK K
                refine wpAny_ready (rs := [9]) (by kernel_rfl) (by simp) ?_
                refine AllReady.cons rfl (fun K hK => ?_) ?_
                · go_simp
                  refine hK _ _ ?_
                  clear hK K
                  refine wpAny_ready (rs := [10]) (by kernel_rfl) (by simp) ?_
                  refine AllReady.cons rfl (fun K hK => ?_) ?_
                  · refine step_appP rfl _ _ (by rfl) (w.heap.size + 3) v rows acc ⟨w2.heap.size, 0, none⟩ 1 (.slice va2 l.length vc2) l rfl rfl (HGo.out _ (tr3 hb3 (by go_grown))).own (by go_simp) (OR.mono (ho2.out.below (by go_grown)) (by omega)) rfl (by omega) (HGo.out _ (tr3 hb3 (by go_grown))).lt ?_
                    intro v3 w3 ho3 hg3
                    obtain ⟨va3, vc3, rfl, _⟩ := ho3.pm.form
                    have hA := (HGo.out _ (tr3 hb3 (by go_grown))).app hg3 ho3
                    have hlen : (acc ++ [l]).length = acc.length + 1 := by simp
                    rw [hlen] at hA
                    obtain ⟨n0, n1, n2, n3⟩ := cel2 hA.2.2.1
                    have n1' : w3.cell? ⟨w.heap.size + 1 + 1, 1, none⟩ = some v := n1
                    have n3' : w3.frozen? ⟨w.heap.size + 1 + 1, 1, none⟩ = false := n3
                    refine hK _ _ ?_
                    clear hK K
                    refine wpAny_take (i := 11) (v := ?_) rfl (by kernel_rfl) (by kernel_rfl) (by kernel_rfl) (fun _ _ _ h => h) (Or.inl ⟨by rfl, ?_⟩) ?_
                    rotate_left
                    · intro w9; go_simp; try with_reducible rfl
                    refine wpAny_ready (rs := [12]) (by kernel_rfl) (by simp) ?_
                    refine AllReady.cons rfl (fun K hK => ?_) ?_
                    · go_simp
                      refine hK _ _ ?_
                      clear hK K
                      refine wpAny_done (by kernel_rfl) ?_ _
                      have HA := Lib.hid hA.1
                      rw [← HTK.out] at HA
                      clear hA hw2
                      go_wp2_with fail
                      go_roundw
                      case rel => exact ⟨k + 1, _, _, by go_num, by omega, HA⟩
                      case measure => simp [intOf]; omega
                    exact AllReady.nil
                  exact AllReady.nil
                exact AllReady.nil
              exact AllReady.nil
            exact AllReady.nil
          refine AllReady.cons rfl (fun K hK => ?_) ?_
          · go_simp
            refine hK _ _ ?_
            clear hK K
            refine wpAny_ready (rs := [1, 8]) (by kernel_rfl) (by simp) ?_
            refine AllReady.cons rfl (fun K hK => ?_) ?_
            · go_simp
              refine hK _ _ ?_
              clear hK K
              refine wpAny_ready (rs := [8]) (by kernel_rfl) (by simp) ?_
              refine AllReady.cons rfl (fun K hK => ?_) ?_
              · refine step_copyR rfl _ _ 38 40 _ 32 (by rfl) Try.underlying38 infoI rfl (by decide) recI wr.heap.size wr.heap.size l (.slice ai l.length ci) rfl (heap_new wr #[] 40) (Nat.le_refl _) rfl (HRV.out _ (by go_grown)) (by omega) ?_
                intro v2 w2 ho2 hb2
                obtain ⟨va2, vc2, rfl⟩ := ho2.out.form
                have hb3 : Below wr.heap.size wr w2 := Below.trans (by go_grown) hb2
                obtain ⟨u1, u2, u3⟩ := hw2 w2 hb3
                obtain ⟨u4, u5, u6⟩ := hw2 (w2.alloc (.cells #[.slice va2 l.length vc2] 38)) (tr3 hb3 (by go_grown))
                refine hK _ _ ?_
                clear hK K
                refine wpAny_ready (rs := [9]) (by kernel_rfl) (by simp) ?_
                refine AllReady.cons rfl (fun K hK => ?_) ?_
                · go_simp
                  refine hK _ _ ?_
                  clear hK K
                  refine wpAny_ready (rs := [10]) (by kernel_rfl) (by simp) ?_
                  refine AllReady.cons rfl (fun K hK => ?_) ?_
                  · refine step_appP rfl _ _ (by rfl) (w.heap.size + 3) v rows acc ⟨w2.heap.size, 0, none⟩ 1 (.slice va2 l.length vc2) l rfl rfl (HGo.out _ (tr3 hb3 (by go_grown))).own (by go_simp) (OR.mono (ho2.out.below (by go_grown)) (by omega)) rfl (by omega) (HGo.out _ (tr3 hb3 (by go_grown))).lt ?_
                    intro v3 w3 ho3 hg3
                    obtain ⟨va3, vc3, rfl, _⟩ := ho3.pm.form
                    have hA := (HGo.out _ (tr3 hb3 (by go_grown))).app hg3 ho3
                    have hlen : (acc ++ [l]).length = acc.length + 1 := by simp
                    rw [hlen] at hA
                    obtain ⟨n0, n1, n2, n3⟩ := cel2 hA.2.2.1
                    have n1' : w3.cell? ⟨w.heap.size + 1 + 1, 1, none⟩ = some v := n1
                    have n3' : w3.frozen? ⟨w.heap.size + 1 + 1, 1, none⟩ = false := n3
                    refine hK _ _ ?_
                    clear hK K
                    refine wpAny_take (i := 11) (v := ?_) rfl (by kernel_rfl) (by kernel_rfl) (by kernel_rfl) (fun _ _ _ h => h) (Or.inl ⟨by rfl, ?_⟩) ?_
                    rotate_left
                    · intro w9; go_simp; try with_reducible rfl
                    refine wpAny_ready (rs := [12]) (by kernel_rfl) (by simp) ?_
                    refine AllReady.cons rfl (fun K hK => ?_) ?_
                    · go_simp
                      refine hK _ _ ?_
                      clear hK K
                      refine wpAny_done (by kernel_rfl) ?_ _
                      have HA := Lib.hid hA.1
                      rw [← HTK.out] at HA
                      clear hA hw2
                      go_wp2_with fail
                      go_roundw
                      case rel => exact ⟨k + 1, _, _, by go_num, by omega, HA⟩
                      case measure => simp [intOf]; omega
                    exact AllReady.nil
                  exact AllReady.nil
                exact AllReady.nil
              exact AllReady.nil
            refine AllReady.cons rfl (fun K hK => ?_) ?_
            · refine step_copyR rfl _ _ 38 40 _ 32 (by rfl) Try.underlying38 infoI rfl (by decide) recI wr.heap.size wr.heap.size l (.slice ai l.length ci) rfl (heap_new wr #[] 40) (Nat.le_refl _) rfl (HRV.out _ (by go_grown)) (by omega) ?_
              intro v2 w2 ho2 hb2
              obtain ⟨va2, vc2, rfl⟩ := ho2.out.form
              have hb3 : Below wr.heap.size wr w2 := Below.trans (by go_grown) hb2
              obtain ⟨u1, u2, u3⟩ := hw2 w2 hb3
              obtain ⟨u4, u5, u6⟩ := hw2 (w2.alloc (.cells #[.slice va2 l.length vc2] 38)) (tr3 hb3 (by go_grown))
              refine hK _ _ ?_
              clear hK K
              refine wpAny_ready (rs := [1, 9]) (by kernel_rfl) (by simp) ?_
              refine AllReady.cons rfl (fun K hK => ?_) ?_
              · go_simp
                refine hK _ _ ?_
                clear hK K
                refine wpAny_ready (rs := [9]) (by kernel_rfl) (by simp) ?_
                refine AllReady.cons rfl (fun K hK => ?_) ?_
                · go_simp
                  refine hK _ _ ?_
                  clear hK K
                  refine wpAny_ready (rs := [10]) (by kernel_rfl) (by simp) ?_
                  refine AllReady.cons rfl (fun K hK => ?_) ?_
                  · refine step_appP rfl _ _ (by rfl) (w.heap.size + 3) v rows acc ⟨w2.heap.size, 0, none⟩ 1 (.slice va2 l.length vc2) l rfl rfl (HGo.out _ (tr3 hb3 (by go_grown))).own (by go_simp) (OR.mono (ho2.out.below (by go_grown)) (by omega)) rfl (by omega) (HGo.out _ (tr3 hb3 (by go_grown))).lt ?_
                    intro v3 w3 ho3 hg3
                    obtain ⟨va3, vc3, rfl, _⟩ := ho3.pm.form
                    have hA := (HGo.out _ (tr3 hb3 (by go_grown))).app hg3 ho3
                    have hlen : (acc ++ [l]).length = acc.length + 1 := by simp
                    rw [hlen] at hA
                    obtain ⟨n0, n1, n2, n3⟩ := cel2 hA.2.2.1
                    have n1' : w3.cell? ⟨w.heap.size + 1 + 1, 1, none⟩ = some v := n1
                    have n3' : w3.frozen? ⟨w.heap.size + 1 + 1, 1, none⟩ = false := n3
                    refine hK _ _ ?_
                    clear hK K
                    refine wpAny_take (i := 11) (v := ?_) rfl (by kernel_rfl) (by kernel_rfl) (by kernel_rfl) (fun _ _ _ h => h) (Or.inl ⟨by rfl, ?_⟩) ?_
                    rotate_left
                    · intro w9; go_simp; try with_reducible rfl
                    refine wpAny_ready (rs := [12]) (by kernel_rfl) (by simp) ?_
                    refine AllReady.cons rfl (fun K hK => ?_) ?_
                    · go_simp
                      refine hK _ _ ?_
                      clear hK K
                      refine wpAny_done (by kernel_rfl) ?_ _
                      have HA := Lib.hid hA.1
                      rw [← HTK.out] at HA
                      clear hA hw2
                      go_wp2_with fail
                      go_roundw
                      case rel => exact ⟨k + 1, _, _, by go_num, by omega, HA⟩
                      case measure => simp [intOf]; omega
                    exact AllReady.nil
                  exact AllReady.nil
                exact AllReady.nil
              refine AllReady.cons rfl (fun K hK => ?_) ?_
              · go_simp
                refine hK _ _ ?_
                clear hK K
                refine wpAny_ready (rs := [1]) (by kernel_rfl) (by simp) ?_
                refine AllReady.cons rfl (fun K hK => ?_) ?_
                · go_simp
                  refine hK _ _ ?_
                  clear hK K
                  refine wpAny_ready (rs := [10]) (by kernel_rfl) (by simp) ?_
                  refine AllReady.cons rfl (fun K hK => ?_) ?_
                  · refine step_appP rfl _ _ (by rfl) (w.heap.size + 3) v rows acc ⟨w2.heap.size, 0, none⟩ 1 (.slice va2 l.length vc2) l rfl rfl (HGo.out _ (tr3 hb3 (by go_grown))).own (by go_simp) (OR.mono (ho2.out.below (by go_grown)) (by omega)) rfl (by omega) (HGo.out _ (tr3 hb3 (by go_grown))).lt ?_
                    intro v3 w3 ho3 hg3
                    obtain ⟨va3, vc3, rfl, _⟩ := ho3.pm.form
                    have hA := (HGo.out _ (tr3 hb3 (by go_grown))).app hg3 ho3
                    have hlen : (acc ++ [l]).length = acc.length + 1 := by simp
                    rw [hlen] at hA
                    obtain ⟨n0, n1, n2, n3⟩ := cel2 hA.2.2.1
                    have n1' : w3.cell? ⟨w.heap.size + 1 + 1, 1, none⟩ = some v := n1
                    have n3' : w3.frozen? ⟨w.heap.size + 1 + 1, 1, none⟩ = false := n3
                    refine hK _ _ ?_
                    clear hK K
                    refine wpAny_take (i := 11) (v := ?_) rfl (by kernel_rfl) (by kernel_rfl) (by kernel_rfl) (fun _ _ _ h => h) (Or.inl ⟨by rfl, ?_⟩) ?_
                    rotate_left
                    · intro w9; go_simp; try with_reducible rfl
                    refine wpAny_ready (rs := [12]) (by kernel_rfl) (by simp) ?_
                    refine AllReady.cons rfl (fun K hK => ?_) ?_
                    · go_simp
                      refine hK _ _ ?_
                      clear hK K
                      refine wpAny_done (by kernel_rfl) ?_ _
                      have HA := Lib.hid hA.1
                      rw [← HTK.out] at HA
                      clear hA hw2
                      go_wp2_with fail
                      go_roundw
                      case rel => exact ⟨k + 1, _, _, by go_num, by omega, HA⟩
                      case measure => simp [intOf]; omega
                    exact AllReady.nil
                  exact AllReady.nil
                exact AllReady.nil
              exact AllReady.nil
            exact AllReady.nil
          exact AllReady.nil
        exact AllReady.nil
      refine AllReady.cons rfl (fun K hK => ?_) ?_
      · go_simp
        refine hK _ _ ?_
        clear hK K
        refine wpAny_take (i := 6) (v := ?_) rfl (by kernel_rfl) (by kernel_rfl) (by kernel_rfl) (fun _ _ _ h => h) (Or.inl ⟨by rfl, ?_⟩) ?_
        rotate_left
        · intro w9; go_simp; try with_reducible rfl
        refine wpAny_ready (rs := [1, 2, 7]) (by kernel_rfl) (by simp) ?_
        refine AllReady.cons rfl (fun K hK => ?_) ?_
        · go_simp
          refine hK _ _ ?_
          clear hK K
          refine wpAny_ready (rs := [2, 7]) (by kernel_rfl) (by simp) ?_
          refine AllReady.cons rfl (fun K hK => ?_) ?_
          · go_simp
            refine hK _ _ ?_
            clear hK K
            refine wpAny_ready (rs := [7]) (by kernel_rfl) (by simp) ?_
            refine AllReady.cons rfl (fun K hK => ?_) ?_
            · go_simp
              refine hK _ _ ?_
              clear hK K
              refine wpAny_ready (rs := [8]) (by kernel_rfl) (by simp) ?_
              refine AllReady.cons rfl (fun K hK => ?_) ?_
              · refine step_copyR rfl _ _ 38 40 _ 32 (by rfl) Try.underlying38 infoI rfl (by decide) recI wr.heap.size wr.heap.size l (.slice ai l.length ci) rfl (heap_new wr #[] 40) (Nat.le_refl _) rfl (HRV.out _ (by go_grown)) (by omega) ?_
                intro v2 w2 ho2 hb2
                obtain ⟨va2, vc2, rfl⟩ := ho2.out.form
                have hb3 : Below wr.heap.size wr w2 := Below.trans (by go_grown) hb2
                obtain ⟨u1, u2, u3⟩ := hw2 w2 hb3
                obtain ⟨u4, u5, u6⟩ := hw2 (w2.alloc (.cells #[.slice va2 l.length vc2] 38)) (tr3 hb3 (by go_grown))
                refine hK _ _ ?_
                clear hK K
                refine wpAny_ready (rs := [9]) (by kernel_rfl) (by simp) ?_
                refine AllReady.cons rfl (fun K hK => ?_) ?_
                · go_simp
                  refine hK _ _ ?_
                  clear hK K
                  refine wpAny_ready (rs := [10]) (by kernel_rfl) (by simp) ?_
                  refine AllReady.cons rfl (fun K hK => ?_) ?_
                  · refine step_appP rfl _ _ (by rfl) (w.heap.size + 3) v rows acc ⟨w2.heap.size, 0, none⟩ 1 (.slice va2 l.length vc2) l rfl rfl (HGo.out _ (tr3 hb3 (by go_grown))).own (by go_simp) (OR.mono (ho2.out.below (by go_grown)) (by omega)) rfl (by omega) (HGo.out _ (tr3 hb3 (by go_grown))).lt ?_
                    intro v3 w3 ho3 hg3
                    obtain ⟨va3, vc3, rfl, _⟩ := ho3.pm.form
                    have hA := (HGo.out _ (tr3 hb3 (by go_grown))).app hg3 ho3
                    have hlen : (acc ++ [l]).length = acc.length + 1 := by simp
                    rw [hlen] at hA
                    obtain ⟨n0, n1, n2, n3⟩ := cel2 hA.2.2.1
                    have n1' : w3.cell? ⟨w.heap.size + 1 + 1, 1, none⟩ = some v := n1
                    have n3' : w3.frozen? ⟨w.heap.size + 1 + 1, 1, none⟩ = false := n3
                    refine hK _ _ ?_
                    clear hK K
                    refine wpAny_take (i := 11) (v := ?_) rfl (by kernel_rfl) (by kernel_rfl) (by kernel_rfl) (fun _ _ _ h => h) (Or.inl ⟨by rfl, ?_⟩) ?_
                    rotate_left
                    · intro w9; go_simp; try with_reducible rfl
                    refine wpAny_ready (rs := [12]) (by kernel_rfl) (by simp) ?_
                    refine AllReady.cons rfl (fun K hK => ?_) ?_
                    · go_simp
                      refine hK _ _ ?_
                      clear hK K
                      refine wpAny_done (by kernel_rfl) ?_ _
                      have HA := Lib.hid hA.1
                      rw [← HTK.out] at HA
                      clear hA hw2
                      go_wp2_with fail
                      go_roundw
                      case rel => exact ⟨k + 1, _, _, by go_num, by omega, HA⟩
                      case measure => simp [intOf]; omega
                    exact AllReady.nil
                  exact AllReady.nil
                exact AllReady.nil
              exact AllReady.nil
            exact AllReady.nil
          refine AllReady.cons rfl (fun K hK => ?_) ?_
          · go_simp
            refine hK _ _ ?_
            clear hK K
            refine wpAny_ready (rs := [2]) (by kernel_rfl) (by simp) ?_
            refine AllReady.cons rfl (fun K hK => ?_) ?_
            · go_simp
              refine hK _ _ ?_
              clear hK K
              refine wpAny_ready (rs := [8]) (by kernel_rfl) (by simp) ?_
              refine AllReady.cons rfl (fun K hK => ?_) ?_
              · refine step_copyR rfl _ _ 38 40 _ 32 (by rfl) Try.underlying38 infoI rfl (by decide) recI wr.heap.size wr.heap.size l (.slice ai l.length ci) rfl (heap_new wr #[] 40) (Nat.le_refl _) rfl (HRV.out _ (by go_grown)) (by omega) ?_
                intro v2 w2 ho2 hb2
                obtain ⟨va2, vc2, rfl⟩ := ho2.out.form
                have hb3 : Below wr.heap.size wr w2 := Below.trans (by go_grown) hb2
                obtain ⟨u1, u2, u3⟩ := hw2 w2 hb3
                obtain ⟨u4, u5, u6⟩ := hw2 (w2.alloc (.cells #[.slice va2 l.length vc2] 38)) (tr3 hb3 (by go_grown))
                refine hK _ _ ?_
                clear hK K
                refine wpAny_ready (rs := [9]) (by kernel_rfl) (by simp) ?_
                refine AllReady.cons rfl (fun K hK => ?_) ?_
                · go_simp
                  refine hK _ _ ?_
                  clear hK K
                  refine wpAny_ready (rs := [10]) (by kernel_rfl) (by simp) ?_
                  refine AllReady.cons rfl (fun K hK => ?_) ?_
                  · refine step_appP rfl _ _ (by rfl) (w.heap.size + 3) v rows acc ⟨w2.heap.size, 0, none⟩ 1 (.slice va2 l.length vc2) l rfl rfl (HGo.out _ (tr3 hb3 (by go_grown))).own (by go_simp) (OR.mono (ho2.out.below (by go_grown)) (by omega)) rfl (by omega) (HGo.out _ (tr3 hb3 (by go_grown))).lt ?_
                    intro v3 w3 ho3 hg3
                    obtain ⟨va3, vc3, rfl, _⟩ := ho3.pm.form
                    have hA := (HGo.out _ (tr3 hb3 (by go_grown))).app hg3 ho3
                    have hlen : (acc ++ [l]).length = acc.length + 1 := by simp
                    rw [hlen] at hA
                    obtain ⟨n0, n1, n2, n3⟩ := cel2 hA.2.2.1
                    have n1' : w3.cell? ⟨w.heap.size + 1 + 1, 1, none⟩ = some v := n1
                    have n3' : w3.frozen? ⟨w.heap.size + 1 + 1, 1, none⟩ = false := n3
                    refine hK _ _ ?_
                    clear hK K
                    refine wpAny_take (i := 11) (v := ?_) rfl (by kernel_rfl) (by kernel_rfl) (by kernel_rfl) (fun _ _ _ h => h) (Or.inl ⟨by rfl, ?_⟩) ?_
                    rotate_left
                    · intro w9; go_simp; try with_reducible rfl
                    refine wpAny_ready (rs := [12]) (by kernel_rfl) (by simp) ?_
                    refine AllReady.cons rfl (fun K hK => ?_) ?_
                    · go_simp
                      refine hK _ _ ?_
                      clear hK K
                      refine wpAny_done (by kernel_rfl) ?_ _
                      have HA := Lib.hid hA.1
                      rw [← HTK.out] at HA
                      clear hA hw2
                      go_wp2_with fail
                      go_roundw
                      case rel => exact ⟨k + 1, _, _, by go_num, by omega, HA⟩
                      case measure => simp [intOf]; omega
                    exact AllReady.nil
                  exact AllReady.nil
                exact AllReady.nil
              exact AllReady.nil
            exact AllReady.nil
          exact AllReady.nil
        refine AllReady.cons rfl (fun K hK => ?_) ?_
        · go_simp
          refine hK _ _ ?_
          clear hK K
          refine wpAny_ready (rs := [1, 7]) (by kernel_rfl) (by simp) ?_
          refine AllReady.cons rfl (fun K hK => ?_) ?_
          · go_simp
            refine hK _ _ ?_
            clear hK K
            refine wpAny_ready (rs := [7]) (by kernel_rfl) (by simp) ?_
            refine AllReady.cons rfl (fun K hK => ?_) ?_
            · go_simp
              refine hK _ _ ?_
              clear hK K
              refine wpAny_ready (rs := [8]) (by kernel_rfl) (by simp) ?_
              refine AllReady.cons rfl (fun K hK => ?_) ?_
              · refine step_copyR rfl _ _ 38 40 _ 32 (by rfl) Try.underlying38 infoI rfl (by decide) recI wr.heap.size wr.heap.size l (.slice ai l.length ci) rfl (heap_new wr #[] 40) (Nat.le_refl _) rfl (HRV.out _ (by go_grown)) (by omega) ?_
                intro v2 w2 ho2 hb2
                obtain ⟨va2, vc2, rfl⟩ := ho2.out.form
                have hb3 : Below wr.heap.size wr w2 := Below.trans (by go_grown) hb2
                obtain ⟨u1, u2, u3⟩ := hw2 w2 hb3
                obtain ⟨u4, u5, u6⟩ := hw2 (w2.alloc (.cells #[.slice va2 l.length vc2] 38)) (tr3 hb3 (by go_grown))
                refine hK _ _ ?_
                clear hK K
                refine wpAny_ready (rs := [9]) (by kernel_rfl) (by simp) ?_
                refine AllReady.cons rfl (fun K hK => ?_) ?_
                · go_simp
                  refine hK _ _ ?_
                  clear hK K
                  refine wpAny_ready (rs := [10]) (by kernel_rfl) (by simp) ?_
                  refine AllReady.cons rfl (fun K hK => ?_) ?_
                  · refine step_appP rfl _ _ (by rfl) (w.heap.size + 3) v rows acc ⟨w2.heap.size, 0, none⟩ 1 (.slice va2 l.length vc2) l rfl rfl (HGo.out _ (tr3 hb3 (by go_grown))).own (by go_simp) (OR.mono (ho2.out.below (by go_grown)) (by omega)) rfl (by omega) (HGo.out _ (tr3 hb3 (by go_grown))).lt ?_
                    intro v3 w3 ho3 hg3
                    obtain ⟨va3, vc3, rfl, _⟩ := ho3.pm.form
                    have hA := (HGo.out _ (tr3 hb3 (by go_grown))).app hg3 ho3
                    have hlen : (acc ++ [l]).length = acc.length + 1 := by simp
                    rw [hlen] at hA
                    obtain ⟨n0, n1, n2, n3⟩ := cel2 hA.2.2.1
                    have n1' : w3.cell? ⟨w.heap.size + 1 + 1, 1, none⟩ = some v := n1
                    have n3' : w3.frozen? ⟨w.heap.size + 1 + 1, 1, none⟩ = false := n3
                    refine hK _ _ ?_
                    clear hK K
                    refine wpAny_take (i := 11) (v := ?_) rfl (by kernel_rfl) (by kernel_rfl) (by kernel_rfl) (fun _ _ _ h => h) (Or.inl ⟨by rfl, ?_⟩) ?_
                    rotate_left
                    · intro w9; go_simp; try with_reducible rfl
                    refine wpAny_ready (rs := [12]) (by kernel_rfl) (by simp) ?_
                    refine AllReady.cons rfl (fun K hK => ?_) ?_
                    · go_simp
                      refine hK _ _ ?_
                      clear hK K
                      refine wpAny_done (by kernel_rfl) ?_ _
                      have HA := Lib.hid hA.1
                      rw [← HTK.out] at HA
                      clear hA hw2
                      go_wp2_with fail
                      go_roundw
                      case rel => exact ⟨k + 1, _, _, by go_num, by omega, HA⟩
                      case measure => simp [intOf]; omega
                    exact AllReady.nil
                  exact AllReady.nil
                exact AllReady.nil
              exact AllReady.nil
            exact AllReady.nil
          refine AllReady.cons rfl (fun K hK => ?_) ?_
          · go_simp
            refine hK _ _ ?_
            clear hK K
            refine wpAny_ready (rs := [1, 8]) (by kernel_rfl) (by simp) ?_
            refine AllReady.cons rfl (fun K hK => ?_) ?_
            · go_simp
              refine hK _ _ ?_
              clear hK K
              refine wpAny_ready (rs := [8]) (by kernel_rfl) (by simp) ?_
              refine AllReady.cons rfl (fun K hK => ?_) ?_
              · refine step_copyR rfl _ _ 38 40 _ 32 (by rfl) Try.underlying38 infoI rfl (by decide) recI wr.heap.size wr.heap.size l (.slice ai l.length ci) rfl (heap_new wr #[] 40) (Nat.le_refl _) rfl (HRV.out _ (by go_grown)) (by omega) ?_
                intro v2 w2 ho2 hb2
                obtain ⟨va2, vc2, rfl⟩ := ho2.out.form
                have hb3 : Below wr.heap.size wr w2 := Below.trans (by go_grown) hb2
                obtain ⟨u1, u2, u3⟩ := hw2 w2 hb3
                obtain ⟨u4, u5, u6⟩ := hw2 (w2.alloc (.cells #[.slice va2 l.length vc2] 38)) (tr3 hb3 (by go_grown))
                refine hK _ _ ?_
                clear hK K
                refine wpAny_ready (rs := [9]) (by kernel_rfl) (by simp) ?_
                refine AllReady.cons rfl (fun K hK => ?_) ?_
                · go_simp
                  refine hK _ _ ?_
                  clear hK K
                  refine wpAny_ready (rs := [10]) (by kernel_rfl) (by simp) ?_
                  refine AllReady.cons rfl (fun K hK => ?_) ?_
                  · refine step_appP rfl _ _ (by rfl) (w.heap.size + 3) v rows acc ⟨w2.heap.size, 0, none⟩ 1 (.slice va2 l.length vc2) l rfl rfl (HGo.out _ (tr3 hb3 (by go_grown))).own (by go_simp) (OR.mono (ho2.out.below (by go_grown)) (by omega)) rfl (by omega) (HGo.out _ (tr3 hb3 (by go_grown))).lt ?_
                    intro v3 w3 ho3 hg3
                    obtain ⟨va3, vc3, rfl, _⟩ := ho3.pm.form
                    have hA := (HGo.out _ (tr3 hb3 (by go_grown))).app hg3 ho3
                    have hlen : (acc ++ [l]).length = acc.length + 1 := by simp
                    rw [hlen] at hA
                    obtain ⟨n0, n1, n2, n3⟩ := cel2 hA.2.2.1
                    have n1' : w3.cell? ⟨w.heap.size + 1 + 1, 1, none⟩ = some v := n1
                    have n3' : w3.frozen? ⟨w.heap.size + 1 + 1, 1, none⟩ = false := n3
                    refine hK _ _ ?_
                    clear hK K
                    refine wpAny_take (i := 11) (v := ?_) rfl (by kernel_rfl) (by kernel_rfl) (by kernel_rfl) (fun _ _ _ h => h) (Or.inl ⟨by rfl, ?_⟩) ?_
                    rotate_left
                    · intro w9; go_simp; try with_reducible rfl
                    refine wpAny_ready (rs := [12]) (by kernel_rfl) (by simp) ?_
                    refine AllReady.cons rfl (fun K hK => ?_) ?_
                    · go_simp
                      refine hK _ _ ?_
                      clear hK K
                      refine wpAny_done (by kernel_rfl) ?_ _
                      have HA := Lib.hid hA.1
                      rw [← HTK.out] at HA
                      clear hA hw2
                      go_wp2_with fail
                      go_roundw
                      case rel => exact ⟨k + 1, _, _, by go_num, by omega, HA⟩
                      case measure => simp [intOf]; omega
                    exact AllReady.nil
                  exact AllReady.nil
                exact AllReady.nil
              exact AllReady.nil
            refine AllReady.cons rfl (fun K hK => ?_) ?_
            · refine step_copyR rfl _ _ 38 40 _ 32 (by rfl) Try.underlying38 infoI rfl (by decide) recI wr.heap.size wr.heap.size l (.slice ai l.length ci) rfl (heap_new wr #[] 40) (Nat.le_refl _) rfl (HRV.out _ (by go_grown)) (by omega) ?_
              intro v2 w2 ho2 hb2
              obtain ⟨va2, vc2, rfl⟩ := ho2.out.form
              have hb3 : Below wr.heap.size wr w2 := Below.trans (by go_grown) hb2
              obtain ⟨u1, u2, u3⟩ := hw2 w2 hb3
              obtain ⟨u4, u5, u6⟩ := hw2 (w2.alloc (.cells #[.slice va2 l.length vc2] 38)) (tr3 hb3 (by go_grown))
              refine hK _ _ ?_
              clear hK K
              refine wpAny_ready (rs := [1, 9]) (by kernel_rfl) (by simp) ?_
              refine AllReady.cons rfl (fun K hK => ?_) ?_
              · go_simp
                refine hK _ _ ?_
                clear hK K
                refine wpAny_ready (rs := [9]) (by kernel_rfl) (by simp) ?_
                refine AllReady.cons rfl (fun K hK => ?_) ?_
                · go_simp
                  refine hK _ _ ?_
                  clear hK K
                  refine wpAny_ready (rs := [10]) (by kernel_rfl) (by simp) ?_
                  refine AllReady.cons rfl (fun K hK => ?_) ?_
                  · refine step_appP rfl _ _ (by rfl) (w.heap.size + 3) v rows acc ⟨w2.heap.size, 0, none⟩ 1 (.slice va2 l.length vc2) l rfl rfl (HGo.out _ (tr3 hb3 (by go_grown))).own (by go_simp) (OR.mono (ho2.out.below (by go_grown)) (by omega)) rfl (by omega) (HGo.out _ (tr3 hb3 (by go_grown))).lt ?_
                    intro v3 w3 ho3 hg3
                    obtain ⟨va3, vc3, rfl, _⟩ := ho3.pm.form
                    have hA := (HGo.out _ (tr3 hb3 (by go_grown))).app hg3 ho3
                    have hlen : (acc ++ [l]).length = acc.length + 1 := by simp
                    rw [hlen] at hA
                    obtain ⟨n0, n1, n2, n3⟩ := cel2 hA.2.2.1
                    have n1' : w3.cell? ⟨w.heap.size + 1 + 1, 1, none⟩ = some v := n1
                    have n3' : w3.frozen? ⟨w.heap.size + 1 + 1, 1, none⟩ = false := n3
                    refine hK _ _ ?_
                    clear hK K
                    refine wpAny_take (i := 11) (v := ?_) rfl (by kernel_rfl) (by kernel_rfl) (by kernel_rfl) (fun _ _ _ h => h) (Or.inl ⟨by rfl, ?_⟩) ?_
                    rotate_left
                    · intro w9; go_simp; try with_reducible rfl
                    refine wpAny_ready (rs := [12]) (by kernel_rfl) (by simp) ?_
                    refine AllReady.cons rfl (fun K hK => ?_) ?_
                    · go_simp
                      refine hK _ _ ?_
                      clear hK K
                      refine wpAny_done (by kernel_rfl) ?_ _
                      have HA := Lib.hid hA.1
                      rw [← HTK.out] at HA
                      clear hA hw2
                      go_wp2_with fail
                      go_roundw
                      case rel => exact ⟨k + 1, _, _, by go_num, by omega, HA⟩
                      case measure => simp [intOf]; omega
                    exact AllReady.nil
                  exact AllReady.nil
                exact AllReady.nil
              refine AllReady.cons rfl (fun K hK => ?_) ?_
              · go_simp
                refine hK _ _ ?_
                clear hK K
                refine wpAny_ready (rs := [1]) (by kernel_rfl) (by simp) ?_
                refine AllReady.cons rfl (fun K hK => ?_) ?_
                · go_simp
                  refine hK _ _ ?_
                  clear hK K
                  refine wpAny_ready (rs := [10]) (by kernel_rfl) (by simp) ?_
                  refine AllReady.cons rfl (fun K hK => ?_) ?_
                  · refine step_appP rfl _ _ (by rfl) (w.heap.size + 3) v rows acc ⟨w2.heap.size, 0, none⟩ 1 (.slice va2 l.length vc2) l rfl rfl (HGo.out _ (tr3 hb3 (by go_grown))).own (by go_simp) (OR.mono (ho2.out.below (by go_grown)) (by omega)) rfl (by omega) (HGo.out _ (tr3 hb3 (by go_grown))).lt ?_
                    intro v3 w3 ho3 hg3
                    obtain ⟨va3, vc3, rfl, _⟩ := ho3.pm.form
                    have hA := (HGo.out _ (tr3 hb3 (by go_grown))).app hg3 ho3
                    have hlen : (acc ++ [l]).length = acc.length + 1 := by simp
                    rw [hlen] at hA
                    obtain ⟨n0, n1, n2, n3⟩ := cel2 hA.2.2.1
                    have n1' : w3.cell? ⟨w.heap.size + 1 + 1, 1, none⟩ = some v := n1
                    have n3' : w3.frozen? ⟨w.heap.size + 1 + 1, 1, none⟩ = false := n3
                    refine hK _ _ ?_
                    clear hK K
                    refine wpAny_take (i := 11) (v := ?_) rfl (by kernel_rfl) (by kernel_rfl) (by kernel_rfl) (fun _ _ _ h => h) (Or.inl ⟨by rfl, ?_⟩) ?_
                    rotate_left
                    · intro w9; go_simp; try with_reducible rfl
                    refine wpAny_ready (rs := [12]) (by kernel_rfl) (by simp) ?_
                    refine AllReady.cons rfl (fun K hK => ?_) ?_
                    · go_simp
                      refine hK _ _ ?_
                      clear hK K
                      refine wpAny_done (by kernel_rfl) ?_ _
                      have HA := Lib.hid hA.1
                      rw [← HTK.out] at HA
                      clear hA hw2
                      go_wp2_with fail
                      go_roundw
                      case rel => exact ⟨k + 1, _, _, by go_num, by omega, HA⟩
                      case measure => simp [intOf]; omega
                    exact AllReady.nil
                  exact AllReady.nil
                exact AllReady.nil
              exact AllReady.nil
            exact AllReady.nil
          exact AllReady.nil
        refine AllReady.cons rfl (fun K hK => ?_) ?_
        · go_simp
          refine hK _ _ ?_
          clear hK K
          refine wpAny_ready (rs := [1, 2]) (by kernel_rfl) (by simp) ?_
          refine AllReady.cons rfl (fun K hK => ?_) ?_
          · go_simp
            refine hK _ _ ?_
            clear hK K
            refine wpAny_ready (rs := [2]) (by kernel_rfl) (by simp) ?_
            refine AllReady.cons rfl (fun K hK => ?_) ?_
            · go_simp
              refine hK _ _ ?_
              clear hK K
              refine wpAny_ready (rs := [8]) (by kernel_rfl) (by simp) ?_
              refine AllReady.cons rfl (fun K hK => ?_) ?_
              · refine step_copyR rfl _ _ 38 40 _ 32 (by rfl) Try.underlying38 infoI rfl (by decide) recI wr.heap.size wr.heap.size l (.slice ai l.length ci) rfl (heap_new wr #[] 40) (Nat.le_refl _) rfl (HRV.out _ (by go_grown)) (by omega) ?_
                intro v2 w2 ho2 hb2
                obtain ⟨va2, vc2, rfl⟩ := ho2.out.form
                have hb3 : Below wr.heap.size wr w2 := Below.trans (by go_grown) hb2
                obtain ⟨u1, u2, u3⟩ := hw2 w2 hb3
                obtain ⟨u4, u5, u6⟩ := hw2 (w2.alloc (.cells #[.slice va2 l.length vc2] 38)) (tr3 hb3 (by go_grown))
                refine hK _ _ ?_
                clear hK K
                refine wpAny_ready (rs := [9]) (by kernel_rfl) (by simp) ?_
                refine AllReady.cons rfl (fun K hK => ?_) ?_
                · go_simp
                  refine hK _ _ ?_
                  clear hK K
                  refine wpAny_ready (rs := [10]) (by kernel_rfl) (by simp) ?_
                  refine AllReady.cons rfl (fun K hK => ?_) ?_
                  · refine step_appP rfl _ _ (by rfl) (w.heap.size + 3) v rows acc ⟨w2.heap.size, 0, none⟩ 1 (.slice va2 l.length vc2) l rfl rfl (HGo.out _ (tr3 hb3 (by go_grown))).own (by go_simp) (OR.mono (ho2.out.below (by go_grown)) (by omega)) rfl (by omega) (HGo.out _ (tr3 hb3 (by go_grown))).lt ?_
                    intro v3 w3 ho3 hg3
                    obtain ⟨va3, vc3, rfl, _⟩ := ho3.pm.form
                    have hA := (HGo.out _ (tr3 hb3 (by go_grown))).app hg3 ho3
                    have hlen : (acc ++ [l]).length = acc.length + 1 := by simp
                    rw [hlen] at hA
                    obtain ⟨n0, n1, n2, n3⟩ := cel2 hA.2.2.1
                    have n1' : w3.cell? ⟨w.heap.size + 1 + 1, 1, none⟩ = some v := n1
                    have n3' : w3.frozen? ⟨w.heap.size + 1 + 1, 1, none⟩ = false := n3
                    refine hK _ _ ?_
                    clear hK K
                    refine wpAny_take (i := 11) (v := ?_) rfl (by kernel_rfl) (by kernel_rfl) (by kernel_rfl) (fun _ _ _ h => h) (Or.inl ⟨by rfl, ?_⟩) ?_
                    rotate_left
                    · intro w9; go_simp; try with_reducible rfl
                    refine wpAny_ready (rs := [12]) (by kernel_rfl) (by simp) ?_
                    refine AllReady.cons rfl (fun K hK => ?_) ?_
                    · go_simp
                      refine hK _ _ ?_
                      clear hK K
                      refine wpAny_done (by kernel_rfl) ?_ _
                      have HA := Lib.hid hA.1
                      rw [← HTK.out] at HA
                      clear hA hw2
                      go_wp2_with fail
                      go_roundw
                      case rel => exact ⟨k + 1, _, _, by go_num, by omega, HA⟩
                      case measure => simp [intOf]; omega
                    exact AllReady.nil
                  exact AllReady.nil
                exact AllReady.nil
              exact AllReady.nil
            exact AllReady.nil
          refine AllReady.cons rfl (fun K hK => ?_) ?_
          · go_simp
            refine hK _ _ ?_
            clear hK K
            refine wpAny_ready (rs := [1, 8]) (by kernel_rfl) (by simp) ?_
            refine AllReady.cons rfl (fun K hK => ?_) ?_
            · go_simp
              refine hK _ _ ?_
              clear hK K
              refine wpAny_ready (rs := [8]) (by kernel_rfl) (by simp) ?_
              refine AllReady.cons rfl (fun K hK => ?_) ?_
              · refine step_copyR rfl _ _ 38 40 _ 32 (by rfl) Try.underlying38 infoI rfl (by decide) recI wr.heap.size wr.heap.size l (.slice ai l.length ci) rfl (heap_new wr #[] 40) (Nat.le_refl _) rfl (HRV.out _ (by go_grown)) (by omega) ?_
                intro v2 w2 ho2 hb2
                obtain ⟨va2, vc2, rfl⟩ := ho2.out.form
                have hb3 : Below wr.heap.size wr w2 := Below.trans (by go_grown) hb2
                obtain ⟨u1, u2, u3⟩ := hw2 w2 hb3
                obtain ⟨u4, u5, u6⟩ := hw2 (w2.alloc (.cells #[.slice va2 l.length vc2] 38)) (tr3 hb3 (by go_grown))
                refine hK _ _ ?_
                clear hK K
                refine wpAny_ready (rs := [9]) (by kernel_rfl) (by simp) ?_
                refine AllReady.cons rfl (fun K hK => ?_) ?_
                · go_simp
                  refine hK _ _ ?_
                  clear hK K
                  refine wpAny_ready (rs := [10]) (by kernel_rfl) (by simp) ?_
                  refine AllReady.cons rfl (fun K hK => ?_) ?_
                  · refine step_appP rfl _ _ (by rfl) (w.heap.size + 3) v rows acc ⟨w2.heap.size, 0, none⟩ 1 (.slice va2 l.length vc2) l rfl rfl (HGo.out _ (tr3 hb3 (by go_grown))).own (by go_simp) (OR.mono (ho2.out.below (by go_grown)) (by omega)) rfl (by omega) (HGo.out _ (tr3 hb3 (by go_grown))).lt ?_
                    intro v3 w3 ho3 hg3
                    obtain ⟨va3, vc3, rfl, _⟩ := ho3.pm.form
                    have hA := (HGo.out _ (tr3 hb3 (by go_grown))).app hg3 ho3
                    have hlen : (acc ++ [l]).length = acc.length + 1 := by simp
                    rw [hlen] at hA
                    obtain ⟨n0, n1, n2, n3⟩ := cel2 hA.2.2.1
                    have n1' : w3.cell? ⟨w.heap.size + 1 + 1, 1, none⟩ = some v := n1
                    have n3' : w3.frozen? ⟨w.heap.size + 1 + 1, 1, none⟩ = false := n3
                    refine hK _ _ ?_
                    clear hK K
                    refine wpAny_take (i := 11) (v := ?_) rfl (by kernel_rfl) (by kernel_rfl) (by kernel_rfl) (fun _ _ _ h => h) (Or.inl ⟨by rfl, ?_⟩) ?_
                    rotate_left
                    · intro w9; go_simp; try with_reducible rfl
                    refine wpAny_ready (rs := [12]) (by kernel_rfl) (by simp) ?_
                    refine AllReady.cons rfl (fun K hK => ?_) ?_
                    · go_simp
                      refine hK _ _ ?_
                      clear hK K
                      refine wpAny_done (by kernel_rfl) ?_ _
                      have HA := Lib.hid hA.1
                      rw [← HTK.out] at HA
                      clear hA hw2
                      go_wp2_with fail
                      go_roundw
                      case rel => exact ⟨k + 1, _, _, by go_num, by omega, HA⟩
                      case measure => simp [intOf]; omega
                    exact AllReady.nil
                  exact AllReady.nil
                exact AllReady.nil
              exact AllReady.nil
            refine AllReady.cons rfl (fun K hK => ?_) ?_
            · refine step_copyR rfl _ _ 38 40 _ 32 (by rfl) Try.underlying38 infoI rfl (by decide) recI wr.heap.size wr.heap.size l (.slice ai l.length ci) rfl (heap_new wr #[] 40) (Nat.le_refl _) rfl (HRV.out _ (by go_grown)) (by omega) ?_
              intro v2 w2 ho2 hb2
              obtain ⟨va2, vc2, rfl⟩ := ho2.out.form
              have hb3 : Below wr.heap.size wr w2 := Below.trans (by go_grown) hb2
              obtain ⟨u1, u2, u3⟩ := hw2 w2 hb3
              obtain ⟨u4, u5, u6⟩ := hw2 (w2.alloc (.cells #[.slice va2 l.length vc2] 38)) (tr3 hb3 (by go_grown))
              refine hK _ _ ?_
              clear hK K
              refine wpAny_ready (rs := [1, 9]) (by kernel_rfl) (by simp) ?_
              refine AllReady.cons rfl (fun K hK => ?_) ?_
              · go_simp
                refine hK _ _ ?_
                clear hK K
                refine wpAny_ready (rs := [9]) (by kernel_rfl) (by simp) ?_
                refine AllReady.cons rfl (fun K hK => ?_) ?_
                · go_simp
                  refine hK _ _ ?_
                  clear hK K
                  refine wpAny_ready (rs := [10]) (by kernel_rfl) (by simp) ?_
                  refine AllReady.cons rfl (fun K hK => ?_) ?_
                  · refine step_appP rfl _ _ (by rfl) (w.heap.size + 3) v rows acc ⟨w2.heap.size, 0, none⟩ 1 (.slice va2 l.length vc2) l rfl rfl (HGo.out _ (tr3 hb3 (by go_grown))).own (by go_simp) (OR.mono (ho2.out.below (by go_grown)) (by omega)) rfl (by omega) (HGo.out _ (tr3 hb3 (by go_grown))).lt ?_
                    intro v3 w3 ho3 hg3
                    obtain ⟨va3, vc3, rfl, _⟩ := ho3.pm.form
                    have hA := (HGo.out _ (tr3 hb3 (by go_grown))).app hg3 ho3
                    have hlen : (acc ++ [l]).length = acc.length + 1 := by simp
                    rw [hlen] at hA
                    obtain ⟨n0, n1, n2, n3⟩ := cel2 hA.2.2.1
                    have n1' : w3.cell? ⟨w.heap.size + 1 + 1, 1, none⟩ = some v := n1
                    have n3' : w3.frozen? ⟨w.heap.size + 1 + 1, 1, none⟩ = false := n3
                    refine hK _ _ ?_
                    clear hK K
                    refine wpAny_take (i := 11) (v := ?_) rfl (by kernel_rfl) (by kernel_rfl) (by kernel_rfl) (fun _ _ _ h => h) (Or.inl ⟨by rfl, ?_⟩) ?_
                    rotate_left
                    · intro w9; go_simp; try with_reducible rfl
                    refine wpAny_ready (rs := [12]) (by kernel_rfl) (by simp) ?_
                    refine AllReady.cons rfl (fun K hK => ?_) ?_
                    · go_simp
                      refine hK _ _ ?_
                      clear hK K
                      refine wpAny_done (by kernel_rfl) ?_ _
                      have HA := Lib.hid hA.1
                      rw [← HTK.out] at HA
                      clear hA hw2
                      go_wp2_with fail
                      go_roundw
                      case rel => exact ⟨k + 1, _, _, by go_num, by omega, HA⟩
                      case measure => simp [intOf]; omega
                    exact AllReady.nil
                  exact AllReady.nil
                exact AllReady.nil
              refine AllReady.cons rfl (fun K hK => ?_) ?_
              · go_simp
                refine hK _ _ ?_
                clear hK K
                refine wpAny_ready (rs := [1]) (by kernel_rfl) (by simp) ?_
                refine AllReady.cons rfl (fun K hK => ?_) ?_
                · go_simp
                  refine hK _ _ ?_
                  clear hK K
                  refine wpAny_ready (rs := [10]) (by kernel_rfl) (by simp) ?_
                  refine AllReady.cons rfl (fun K hK => ?_) ?_
                  · refine step_appP rfl _ _ (by rfl) (w.heap.size + 3) v rows acc ⟨w2.heap.size, 0, none⟩ 1 (.slice va2 l.length vc2) l rfl rfl (HGo.out _ (tr3 hb3 (by go_grown))).own (by go_simp) (OR.mono (ho2.out.below (by go_grown)) (by omega)) rfl (by omega) (HGo.out _ (tr3 hb3 (by go_grown))).lt ?_
                    intro v3 w3 ho3 hg3
                    obtain ⟨va3, vc3, rfl, _⟩ := ho3.pm.form
                    have hA := (HGo.out _ (tr3 hb3 (by go_grown))).app hg3 ho3
                    have hlen : (acc ++ [l]).length = acc.length + 1 := by simp
                    rw [hlen] at hA
                    obtain ⟨n0, n1, n2, n3⟩ := cel2 hA.2.2.1
                    have n1' : w3.cell? ⟨w.heap.size + 1 + 1, 1, none⟩ = some v := n1
                    have n3' : w3.frozen? ⟨w.heap.size + 1 + 1, 1, none⟩ = false := n3
                    refine hK _ _ ?_
                    clear hK K
                    refine wpAny_take (i := 11) (v := ?_) rfl (by kernel_rfl) (by kernel_rfl) (by kernel_rfl) (fun _ _ _ h => h) (Or.inl ⟨by rfl, ?_⟩) ?_
                    rotate_left
                    · intro w9; go_simp; try with_reducible rfl
                    refine wpAny_ready (rs := [12]) (by kernel_rfl) (by simp) ?_
                    refine AllReady.cons rfl (fun K hK => ?_) ?_
                    · go_simp
                      refine hK _ _ ?_
                      clear hK K
                      refine wpAny_done (by kernel_rfl) ?_ _
                      have HA := Lib.hid hA.1
                      rw [← HTK.out] at HA
                      clear hA hw2
                      go_wp2_with fail
                      go_roundw
                      case rel => exact ⟨k + 1, _, _, by go_num, by omega, HA⟩
                      case measure => simp [intOf]; omega
                    exact AllReady.nil
                  exact AllReady.nil
                exact AllReady.nil
              exact AllReady.nil
            exact AllReady.nil
          exact AllReady.nil
        exact AllReady.nil
      exact AllReady.nil
    · obtain rfl : k = n := by omega
      have HTK : L.take k = L := by rw [HNL.out, List.take_length]
      rw [HTK] at HO1
      obtain ⟨va, vc, rfl, _⟩ := HO1.out.own.pm.form
      obtain ⟨c0, c1, f0, f1⟩ := cel2 HO1.out.r1
      obtain ⟨g0, g1, _, _⟩ := cel2 HO1.out.r2
      have g0' : wr.cell? ⟨w.heap.size + 1 + 1, 0, none⟩ = some (.int .i64 m) := g0
      have g1' : wr.cell? ⟨w.heap.size + 1 + 1, 1, none⟩ = some (.slice va L.length vc) := g1
      go_wp2_with fail
      have hB : Below w.heap.size w (st2 wr (w.heap.size + 1) (.int .i64 m) (.slice va L.length vc)) := st2_below HO1.out.bel (by omega) _ _
      have hP : OP (st2 wr (w.heap.size + 1) (.int .i64 m) (.slice va L.length vc)) (w.heap.size + 3) (.slice va L.length vc) rows L := HO1.out.own.keep fun k hk => st2_oth _ _ _ _ _ (by omega)
      exact bodyPost_ret (res_p1 Try.results11 rfl (st2_blk (a' := .int .i64 m) (b' := .slice va L.length vc) HO1.out.r1)) rfl ⟨_, rows, rfl, hP, hB⟩
end Go.Proofs.Ythllikmnlnakkaa.pr
