/- The document's end of putting a program together: the whole (layer 7). -/
import Derived.Test.YtdneblbaofhehaaBdU
import Derived.Deep.CutBlock
namespace Go.Proofs.Ytdneblbaofhehaa.bd
open Go.ChangeShapes Go.WideShapes Go.ChangeAt Go.RowKit Go.Maps
open Go.Proofs.Ytdneblbaofhehaa.ro
open Go.Proofs.Ytdneblbaofhehaa.pr
open Go.Proofs.Ytdneblbaofhehaa.ins (kb tr3)
attribute [local go_sem ↓] Go.wp_at_zero Go.wp_at_succ
set_option linter.unusedVariables false
set_option linter.unusedSimpArgs false
set_option maxRecDepth 20000 in
set_option maxHeartbeats 4000000 in
theorem rend_v (mem : Int) (a : Option Addr) (n c : Nat) (l : List St) (w : World) (h : RV 7 enO w (.slice a n c) l) (hk : ∀ o ∈ l, kOk o) (hn : n ≤ 300) :
    Calls Try.prog 12 #[.int .i64 mem, .slice a n c] w (EndP w mem (endR l)) := by
  obtain ⟨hnl, hnc, hcm⟩ := h.len
  unfold maxLen at hcm
  have HR0 := Lib.hid h
  have HNL := Lib.hid hnl
  have HKK := Lib.hid hk
  obtain ⟨R, hR⟩ : ∃ R, endR l = R := ⟨_, rfl⟩
  rw [hR]
  have HRR : Hid (refP (segs l) [] = R) := Lib.hid hR
  clear h hnl hk hR
  go_enter Try.func12, Try.ntmps12
  go_wp2_with fail
  go_loopw [8] (fun iv wr => ∃ (k : Nat), k ≤ n ∧ iv = .int .i64 (k : Int) ∧ Hid (∃ v rows L, refP (segs (l.drop k)) L = R ∧ L.length ≤ k ∧ TI w wr mem v rows L)) (fun iv _ => n - (intOf iv).toNat)
  case atStart => exact ⟨0, Nat.zero_le _, rfl, Lib.hid ⟨.slice none 0 0, [], [], by rw [List.drop_zero]; exact HRR.out, Nat.le_refl _, (three_at w _ _ _).1, (three_at w _ _ _).2.1, (three_at w _ _ _).2.2, OP.nil _ _, by go_grown⟩⟩
  case round =>
    obtain ⟨k, hk, rfl, HI⟩ := hrel
    obtain ⟨v, rows, L, hi1, hi2, hE⟩ := HI.out
    by_cases hlt : k < n
    · obtain ⟨o, ho⟩ : ∃ o, l[k]? = some o := ⟨_, List.getElem?_eq_getElem (by rw [← HNL.out]; exact hlt)⟩
      obtain ⟨b, f, rfl, hbl, c0, c1, c2, c3, c4, c5, c6⟩ := RV.seven (HR0.out.below hE.b) k o ho
      have hltI : (k : Int) < (n : Int) := by omega
      clear c1 c2 c3 c4 c5 c6
      by_cases h0 : o.k = 0
      · rw [h0] at c0
        rw [segs_0 ho h0] at hi1
        have HSO : Hid (∀ q ∈ (l.drop (k + 1)).takeWhile nz, 1 ≤ q.k ∧ q.k ≤ 4) := Lib.hid (fun q hq => segs_ok (l.drop k) (fun q hq => HKK.out q (List.mem_of_mem_drop hq)) _ (by rw [segs_0 ho h0]; exact List.mem_cons_self) q hq)
        obtain ⟨own, hown⟩ : ∃ own, (l.drop (k + 1)).takeWhile nz = own := ⟨_, rfl⟩
        obtain ⟨t, ht⟩ : ∃ t, own.length = t := ⟨_, rfl⟩
        have htk : own = (l.drop (k + 1)).take t := by rw [← ht, ← hown]; exact tw_take _
        have htl : k + 1 + t ≤ n := by
          have := congrArg List.length htk
          rw [ht, List.length_take, List.length_drop] at this
          have := HNL.out
          omega
        have HLT : Hid (∀ j, j < t → ∃ q, l[k + 1 + j]? = some q ∧ q.k ≠ 0) := Lib.hid (fun j hj => by
          obtain ⟨q, h1, h2⟩ := tw_lt (l.drop (k + 1)) j (by rw [hown, ht]; exact hj)
          exact ⟨q, by rw [← h1, List.getElem?_drop], h2⟩)
        have HEN : Hid (k + 1 + t < n → ∃ q, l[k + 1 + t]? = some q ∧ q.k = 0) := Lib.hid (fun hj => by
          rcases tw_end (l.drop (k + 1)) with h1 | ⟨q, h1, h2⟩
          · rw [hown, ht, List.getElem?_drop, List.getElem?_eq_none_iff] at h1
            have := HNL.out
            omega
          · rw [hown, ht, List.getElem?_drop] at h1
            exact ⟨q, h1, h2⟩)
        rw [hown] at hi1 HSO
        have HT := Lib.hid ht
        have HTK := Lib.hid htk
        have HI1 := Lib.hid hi1
        have HI2 := Lib.hid hi2
        obtain ⟨X, HXW, HE, HBX⟩ : ∃ X, Hid (wr = X) ∧ Hid (TI w X mem v rows L) ∧ Hid (b < X.heap.size) := ⟨_, Lib.hid rfl, Lib.hid hE, Lib.hid hbl⟩
        clear ht htk hi1 hi2 hE HI hown ho
        go_wp2_with fail
        clear c0
        go_loopw [9] (fun kv wr' => ∃ (j : Nat), j ≤ t ∧ kv = .int .i64 ((k + 1 + j : Nat) : Int) ∧ Hid (wr' = X)) (fun kv _ => n - (intOf kv).toNat)
        case atStart => exact ⟨0, Nat.zero_le _, by go_num, HXW⟩
        case round =>
          obtain ⟨j, hj, rfl, HX2⟩ := hrel
          obtain rfl := HX2.out
          have hbl2 := HBX.out
          by_cases hjt : j < t
          · obtain ⟨q, hq, hq0⟩ := HLT.out j hjt
            obtain ⟨b', f', e', hbl', d0, d1, d2, d3, d4, d5, d6⟩ := RV.seven (HR0.out.below HE.out.b) (k + 1 + j) q hq
            rw [Option.some.injEq, Addr.mk.injEq] at e'
            obtain ⟨rfl, rfl, _⟩ := e'
            obtain ⟨kd, hkd⟩ : ∃ kd, q.k = kd := ⟨_, rfl⟩
            rw [hkd] at d0 hq0
            have hq1 : (kd != 0) = true := by simpa using hq0
            have hq2 : (kd == 0) = false := by simpa using hq0
            obtain ⟨m, hm⟩ : ∃ m, k + 1 + j = m := ⟨_, rfl⟩
            rw [hm] at d0 ⊢
            have hmn : m < n := by omega
            have hmI : (m : Int) < (n : Int) := by omega
            clear d1 d2 d3 d4 d5 d6 hq hkd
            have HM := Lib.hid hm
            clear hm
            go_wp2_with fail
            go_roundw
            case rel => exact ⟨j + 1, by omega, by have := HM.out; rw [← this]; go_num, Lib.hid (by first | trivial | rfl)⟩
            case measure => simp [intOf]; omega
          · obtain rfl : t = j := by omega
            obtain ⟨m, hm⟩ : ∃ m, k + 1 + t = m := ⟨_, rfl⟩
            have HU : Hid (RV 7 enO wr (.slice (some ⟨b, f + (k + 1) * 7, none⟩) t (c - (k + 1))) own) := Lib.hid (by rw [HTK.out]; exact RV.part (HR0.out.below HE.out.b) htl)
            rw [hm]
            have hmn : m ≤ n := by omega
            have hmI : (m : Int) ≤ (n : Int) := by omega
            have HM := Lib.hid hm
            have hm1 : (k : Int) + 1 ≤ (m : Int) := by omega
            have hm2 : k + 1 ≤ m := by omega
            have hmk : m - (k + 1) = t := by omega
            have hmc : m ≤ c := by omega
            clear hm
            by_cases hme : m = n
            · by_cases hcc : k + 1 = c
              · have ht0 : t = 0 := by omega
                have HU0 : Hid (RV 7 enO wr (.slice (some ⟨b, f, none⟩) 0 0) own) := Lib.hid (by
                  have : own = [] := List.length_eq_zero_iff.1 (HT.out.trans ht0)
                  rw [this]
                  exact RV.none0 (Nat.zero_le _) (fun h => rfl))
                go_upto_block 4 with (fail)
                refine own_of HE.out (HU0).out (by omega) HSO.out ?_ ?_
                · intro hbad a' w' hd h4 h5 e0 e1 hb
                  have hRN : R = none := by rw [← HI1.out, refP, hbad]
                  (try simp only [Exit.inBlock, Exit.then])
                  refine bodyPost_ret (v := .tuple #[.agg #[.int .i64 0, .slice none 0 0], .int .i64 7]) ?_ hd ⟨hb, ?_⟩
                  · rw [results_cell_tmp rfl]
                    simp only [h4, h5]
                    go_simp
                  · rw [hRN]
                · intro ca cc cs v5 v12 v13 v14 v52 v53 v54 v55 v56 v57 v58 v59 v60 v61 v62 v63 v64 v65 v66 v67 v68 v69 v70 v71 v72 v73 v74 v75 v76 v77 v78 v79 v80 v81 v82 v83 v84 v85 v86 v87 v88 v89 v90 v91 v92 v93 v94 v95 v96 v97 v98 v99 v100 v101 v102 v103 v104 w5 hfill hlen ho hb5
                  have hi1 : refP (segs (l.drop (k + 1))) (L ++ [cs]) = R := by rw [← HI1.out, refP, hfill]
                  have hE5 := HE.out.below hb5
                  have hsr := ro.lt_of HE.out.r2
                  have HUC0 : Hid (OR 4 enI w5 (w.heap.size + 1 + 1 + 1) 33 (.slice ca cs.length cc) cs) := Lib.hid (OR.monoI ho (by omega))
                  obtain ⟨z, hz⟩ : ∃ z, cs.length = z := ⟨_, rfl⟩
                  rw [hz] at HUC0 ⊢
                  obtain ⟨va, vc, rfl, _, _⟩ := (OP.pm hE5.p).form
                  obtain ⟨y, hy⟩ : ∃ y, L.length = y := ⟨_, rfl⟩
                  rw [hy] at hE5
                  have HY := Lib.hid hy
                  have HE5 := Lib.hid (hE5.below (wr' := w5.alloc (.cells #[.slice ca z cc] 50)) (by go_grown))
                  have HUC : Hid ((w5.alloc (.cells #[.slice ca z cc] 50)).cell? ⟨w5.heap.size, 0, none⟩ = some (.slice ca z cc)) := Lib.hid (ro.cel (heap_new w5 (.cells #[.slice ca z cc] 50)) 0)
                  have p1 : w5.cell? ⟨w.heap.size + 1 + 1, 1, none⟩ = some (.slice va y vc) := ro.cel hE5.r2 1
                  have HI1' := Lib.hid hi1
                  have HS5 : Hid (w.heap.size + 1 + 1 + 1 ≤ (w5.alloc (.cells #[.slice ca z cc] 50)).heap.size) := Lib.hid (by have := ro.lt_of HE5.out.r2; omega)
                  clear hE5 hb5 HE HI1 ho hi1 hz hy hfill
                  go_wp2_with (at_builtin; refine wpList_appP rfl _ _ rfl (w.heap.size + 1 + 1 + 1) (.slice va y vc) rows L rfl ⟨w5.heap.size, 0, none⟩ 1 rfl (.slice ca z cc) cs HE5.out.p HUC.out (OR.below HUC0.out (by go_grown)) rfl (by have := HI2.out; omega) HS5.out ?_)
                  intro v' w6 hp hg hor
                  obtain ⟨va', vm', vc', rfl⟩ : ∃ a n c, v' = .slice a n c := by
                    obtain ⟨a2, c2, e2, _, _⟩ := (OP.pm hp).form
                    exact ⟨a2, _, c2, e2⟩
                  obtain ⟨p2, z2, hE7⟩ := HE5.out.more HS5.out hg hp
                  have HE7 := Lib.hid hE7
                  clear hp hg hor hE7 p1
                  go_wp2_with fail
                  go_roundw
                  case rel => exact ⟨k + 1, by omega, by go_num, Lib.hid ⟨_, _, _, HI1'.out, by rw [List.length_append, List.length_singleton]; have := HI2.out; omega, HE7.out⟩⟩
                  case measure => simp [intOf]; omega
              · have hcc2 : ¬ (k + 1 = c) := hcc
                have hml : ¬ (m : Int) < (n : Int) := by omega
                have hml2 : ¬ m < n := by omega
                clear hme
                go_upto_block 4 with (fail)
                refine own_of HE.out (HU).out (by omega) HSO.out ?_ ?_
                · intro hbad a' w' hd h4 h5 e0 e1 hb
                  have hRN : R = none := by rw [← HI1.out, refP, hbad]
                  (try simp only [Exit.inBlock, Exit.then])
                  refine bodyPost_ret (v := .tuple #[.agg #[.int .i64 0, .slice none 0 0], .int .i64 7]) ?_ hd ⟨hb, ?_⟩
                  · rw [results_cell_tmp rfl]
                    simp only [h4, h5]
                    go_simp
                  · rw [hRN]
                · intro ca cc cs v5 v12 v13 v14 v52 v53 v54 v55 v56 v57 v58 v59 v60 v61 v62 v63 v64 v65 v66 v67 v68 v69 v70 v71 v72 v73 v74 v75 v76 v77 v78 v79 v80 v81 v82 v83 v84 v85 v86 v87 v88 v89 v90 v91 v92 v93 v94 v95 v96 v97 v98 v99 v100 v101 v102 v103 v104 w5 hfill hlen ho hb5
                  have hi1 : refP (segs (l.drop (k + 1))) (L ++ [cs]) = R := by rw [← HI1.out, refP, hfill]
                  have hE5 := HE.out.below hb5
                  have hsr := ro.lt_of HE.out.r2
                  have HUC0 : Hid (OR 4 enI w5 (w.heap.size + 1 + 1 + 1) 33 (.slice ca cs.length cc) cs) := Lib.hid (OR.monoI ho (by omega))
                  obtain ⟨z, hz⟩ : ∃ z, cs.length = z := ⟨_, rfl⟩
                  rw [hz] at HUC0 ⊢
                  obtain ⟨va, vc, rfl, _, _⟩ := (OP.pm hE5.p).form
                  obtain ⟨y, hy⟩ : ∃ y, L.length = y := ⟨_, rfl⟩
                  rw [hy] at hE5
                  have HY := Lib.hid hy
                  have HE5 := Lib.hid (hE5.below (wr' := w5.alloc (.cells #[.slice ca z cc] 50)) (by go_grown))
                  have HUC : Hid ((w5.alloc (.cells #[.slice ca z cc] 50)).cell? ⟨w5.heap.size, 0, none⟩ = some (.slice ca z cc)) := Lib.hid (ro.cel (heap_new w5 (.cells #[.slice ca z cc] 50)) 0)
                  have p1 : w5.cell? ⟨w.heap.size + 1 + 1, 1, none⟩ = some (.slice va y vc) := ro.cel hE5.r2 1
                  have HI1' := Lib.hid hi1
                  have HS5 : Hid (w.heap.size + 1 + 1 + 1 ≤ (w5.alloc (.cells #[.slice ca z cc] 50)).heap.size) := Lib.hid (by have := ro.lt_of HE5.out.r2; omega)
                  clear hE5 hb5 HE HI1 ho hi1 hz hy hfill
                  go_wp2_with (at_builtin; refine wpList_appP rfl _ _ rfl (w.heap.size + 1 + 1 + 1) (.slice va y vc) rows L rfl ⟨w5.heap.size, 0, none⟩ 1 rfl (.slice ca z cc) cs HE5.out.p HUC.out (OR.below HUC0.out (by go_grown)) rfl (by have := HI2.out; omega) HS5.out ?_)
                  intro v' w6 hp hg hor
                  obtain ⟨va', vm', vc', rfl⟩ : ∃ a n c, v' = .slice a n c := by
                    obtain ⟨a2, c2, e2, _, _⟩ := (OP.pm hp).form
                    exact ⟨a2, _, c2, e2⟩
                  obtain ⟨p2, z2, hE7⟩ := HE5.out.more HS5.out hg hp
                  have HE7 := Lib.hid hE7
                  clear hp hg hor hE7 p1
                  go_wp2_with fail
                  go_roundw
                  case rel => exact ⟨k + 1, by omega, by go_num, Lib.hid ⟨_, _, _, HI1'.out, by rw [List.length_append, List.length_singleton]; have := HI2.out; omega, HE7.out⟩⟩
                  case measure => simp [intOf]; omega
            · have hmn2 : m < n := by omega
              have hmnI : (m : Int) < (n : Int) := by omega
              have hcc2 : ¬ (k + 1 = c) := by omega
              obtain ⟨q, hq, hq0⟩ := HEN.out (by have := HM.out; omega)
              have hq1 : l[m]? = some q := by have := HM.out; rw [← this]; exact hq
              obtain ⟨b', f', e', hbl', d0, d1, d2, d3, d4, d5, d6⟩ := RV.seven (HR0.out.below HE.out.b) m q hq1
              rw [Option.some.injEq, Addr.mk.injEq] at e'
              obtain ⟨rfl, rfl, _⟩ := e'
              rw [hq0] at d0
              clear d1 d2 d3 d4 d5 d6 hq hq1 hq0
              go_upto_block 4 with (fail)
              refine own_of HE.out (HU).out (by omega) HSO.out ?_ ?_
              · intro hbad a' w' hd h4 h5 e0 e1 hb
                have hRN : R = none := by rw [← HI1.out, refP, hbad]
                (try simp only [Exit.inBlock, Exit.then])
                refine bodyPost_ret (v := .tuple #[.agg #[.int .i64 0, .slice none 0 0], .int .i64 7]) ?_ hd ⟨hb, ?_⟩
                · rw [results_cell_tmp rfl]
                  simp only [h4, h5]
                  go_simp
                · rw [hRN]
              · intro ca cc cs v5 v12 v13 v14 v52 v53 v54 v55 v56 v57 v58 v59 v60 v61 v62 v63 v64 v65 v66 v67 v68 v69 v70 v71 v72 v73 v74 v75 v76 v77 v78 v79 v80 v81 v82 v83 v84 v85 v86 v87 v88 v89 v90 v91 v92 v93 v94 v95 v96 v97 v98 v99 v100 v101 v102 v103 v104 w5 hfill hlen ho hb5
                have hi1 : refP (segs (l.drop (k + 1))) (L ++ [cs]) = R := by rw [← HI1.out, refP, hfill]
                have hE5 := HE.out.below hb5
                have hsr := ro.lt_of HE.out.r2
                have HUC0 : Hid (OR 4 enI w5 (w.heap.size + 1 + 1 + 1) 33 (.slice ca cs.length cc) cs) := Lib.hid (OR.monoI ho (by omega))
                obtain ⟨z, hz⟩ : ∃ z, cs.length = z := ⟨_, rfl⟩
                rw [hz] at HUC0 ⊢
                obtain ⟨va, vc, rfl, _, _⟩ := (OP.pm hE5.p).form
                obtain ⟨y, hy⟩ : ∃ y, L.length = y := ⟨_, rfl⟩
                rw [hy] at hE5
                have HY := Lib.hid hy
                have HE5 := Lib.hid (hE5.below (wr' := w5.alloc (.cells #[.slice ca z cc] 50)) (by go_grown))
                have HUC : Hid ((w5.alloc (.cells #[.slice ca z cc] 50)).cell? ⟨w5.heap.size, 0, none⟩ = some (.slice ca z cc)) := Lib.hid (ro.cel (heap_new w5 (.cells #[.slice ca z cc] 50)) 0)
                have p1 : w5.cell? ⟨w.heap.size + 1 + 1, 1, none⟩ = some (.slice va y vc) := ro.cel hE5.r2 1
                have HI1' := Lib.hid hi1
                have HS5 : Hid (w.heap.size + 1 + 1 + 1 ≤ (w5.alloc (.cells #[.slice ca z cc] 50)).heap.size) := Lib.hid (by have := ro.lt_of HE5.out.r2; omega)
                clear hE5 hb5 HE HI1 ho hi1 hz hy hfill
                go_wp2_with (at_builtin; refine wpList_appP rfl _ _ rfl (w.heap.size + 1 + 1 + 1) (.slice va y vc) rows L rfl ⟨w5.heap.size, 0, none⟩ 1 rfl (.slice ca z cc) cs HE5.out.p HUC.out (OR.below HUC0.out (by go_grown)) rfl (by have := HI2.out; omega) HS5.out ?_)
                intro v' w6 hp hg hor
                obtain ⟨va', vm', vc', rfl⟩ : ∃ a n c, v' = .slice a n c := by
                  obtain ⟨a2, c2, e2, _, _⟩ := (OP.pm hp).form
                  exact ⟨a2, _, c2, e2⟩
                obtain ⟨p2, z2, hE7⟩ := HE5.out.more HS5.out hg hp
                have HE7 := Lib.hid hE7
                clear hp hg hor hE7 p1
                go_wp2_with fail
                go_roundw
                case rel => exact ⟨k + 1, by omega, by go_num, Lib.hid ⟨_, _, _, HI1'.out, by rw [List.length_append, List.length_singleton]; have := HI2.out; omega, HE7.out⟩⟩
                case measure => simp [intOf]; omega
      · have h0b : (o.k == 0) = false := by simpa using h0
        have h0c : (o.k != 0) = true := by simpa using h0
        have hi1' : refP (segs (l.drop (k + 1))) L = R := by rw [← segs_1 ho h0]; exact hi1
        have HIN : Hid (∃ v rows L, refP (segs (l.drop (k + 1))) L = R ∧ L.length ≤ k + 1 ∧ TI w wr mem v rows L) := Lib.hid ⟨v, rows, L, hi1', by omega, hE⟩
        obtain ⟨kd, hkd⟩ : ∃ kd, o.k = kd := ⟨_, rfl⟩
        rw [hkd] at c0 h0 h0b h0c
        clear ho hi1 hi1' hkd hE HI
        go_wp2_with fail
        go_roundw
        case rel => exact ⟨k + 1, by omega, by go_num, HIN⟩
        case measure => simp [intOf]; omega
    · obtain rfl : n = k := by omega
      have hd : l.drop n = [] := by rw [HNL.out, List.drop_length]
      rw [hd] at hi1
      have HRN : Hid (R = some L) := Lib.hid hi1.symm
      have hpm := OP.pm hE.p
      obtain ⟨va, vc, rfl, _, _⟩ := hpm.form
      obtain ⟨y, hy⟩ : ∃ y, L.length = y := ⟨_, rfl⟩
      rw [hy] at hpm hE
      have HCk := Lib.hid (rcheck_v mem va y vc L wr hpm)
      have HE := Lib.hid hE
      have p0 : wr.cell? ⟨w.heap.size + 1 + 1, 0, none⟩ = some (.int .i64 mem) := ro.cel hE.r2 0
      have p1 : wr.cell? ⟨w.heap.size + 1 + 1, 1, none⟩ = some (.slice va y vc) := ro.cel hE.r2 1
      clear hE hpm hi1 HI hd hy hi2
      go_wp2_with fail
      refine HCk.out.mono ?_
      rintro e w5 ⟨rfl, hb5⟩
      have hE5 := HE.out.below hb5
      have b0 : w5.cell? ⟨w.heap.size, 0, none⟩ = some (.int .i64 0) := ro.cel hE5.r0 0
      have b1 : w5.cell? ⟨w.heap.size, 1, none⟩ = some (.slice none 0 0) := ro.cel hE5.r0 1
      have z0 : w5.frozen? ⟨w.heap.size, 0, none⟩ = false := ro.frz hE5.r0 0
      have z1 : w5.frozen? ⟨w.heap.size, 1, none⟩ = false := ro.frz hE5.r0 1
      have n0 : w5.cell? ⟨w.heap.size + 1, 0, none⟩ = some (.int .i64 0) := ro.cel hE5.r1 0
      have n1 : w5.cell? ⟨w.heap.size + 1, 1, none⟩ = some (.slice none 0 0) := ro.cel hE5.r1 1
      have q0 : w5.cell? ⟨w.heap.size + 1 + 1, 0, none⟩ = some (.int .i64 mem) := ro.cel hE5.r2 0
      have q1 : w5.cell? ⟨w.heap.size + 1 + 1, 1, none⟩ = some (.slice va y vc) := ro.cel hE5.r2 1
      have HB5 := Lib.hid hE5.b
      have HP5 := Lib.hid (OP.monoB hE5.p (show w.heap.size + 1 + 1 ≤ w.heap.size + 1 + 1 + 1 by omega))
      obtain ⟨r, hr⟩ : ∃ r, prE mem L = r := ⟨_, rfl⟩
      rw [hr]
      have HRR := Lib.hid hr
      clear hE5 hb5 HE HCk p0 p1 hr
      by_cases hr0 : r = 0
      · have hrb : (r != 0) = false := by rw [hr0]; rfl
        go_wp2_with fail
        (try simp only [Exit.inBlock, Exit.then])
        refine bodyPost_ret (v := .tuple #[.agg #[.int .i64 mem, .slice va y vc], .int .i64 0]) ?_ rfl ⟨?_, ?_⟩
        · rw [results_cell_tmp rfl]
          go_simp
        · refine Below.trans HB5.out ?_
          go_grown
        · rw [HRN.out]
          show if prE mem L = 0 then _ else _
          rw [if_pos (HRR.out.trans hr0)]
          exact ⟨_, rows, rfl, OP.setB (OP.setB HP5.out (by show w.heap.size < _; omega) _) (by show w.heap.size < _; omega) _⟩
      · have hrb : (r != 0) = true := by rw [bne_iff_ne]; exact hr0
        go_wp2_with fail
        (try simp only [Exit.inBlock, Exit.then])
        refine bodyPost_ret (v := .tuple #[.agg #[.int .i64 0, .slice none 0 0], .int .i64 r]) ?_ rfl ⟨?_, ?_⟩
        · rw [results_cell_tmp rfl]
          go_simp
        · refine Below.trans HB5.out ?_
          go_grown
        · rw [HRN.out]
          show if prE mem L = 0 then _ else _
          rw [if_neg (by rw [HRR.out]; exact hr0), HRR.out]
end Go.Proofs.Ytdneblbaofhehaa.bd
