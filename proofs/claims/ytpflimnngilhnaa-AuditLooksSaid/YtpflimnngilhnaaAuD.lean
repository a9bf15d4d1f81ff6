/- The document's look (layer 37). -/
import Derived.Test.YtpflimnngilhnaaAuC
namespace Go.Proofs.Ytpflimnngilhnaa.au
open Go.ChangeShapes Go.WideShapes Go.ChangeAt Go.RowKit
open Go.Proofs.Ytpflimnngilhnaa.rh
set_option linter.unusedVariables false
set_option linter.unusedSimpArgs false
theorem rhas10_of (v : Value) (xs : List Int) (x : Int) (b : Bool) (w : World) (h : View w v xs) (hsm : xs.length ≤ 100000) (hb : decide (x ∈ xs) = b) :
    Calls Try.prog 31 #[v, .int .i64 x] w fun e w' => e = .returned (.bool b) ∧ w = w' := by
  have hv := h
  obtain ⟨a, cap, rfl, _⟩ := hv
  have H := Lib.hid h
  have HB := Lib.hid hb
  have hcap := h.len.2
  unfold maxLen at hcap
  obtain ⟨m, hm⟩ : ∃ m, xs.length = m := ⟨_, rfl⟩
  have HM := Lib.hid hm
  rw [hm] at H hsm hcap ⊢
  clear h hb hm
  go_enter Try.func31, Try.ntmps31
  go_wp2_with fail
  go_loop [5] (fun i => ∃ k : Nat, k ≤ m ∧ i = .int .i64 (k : Int) ∧ Hid (decide (x ∈ xs.take k) = false)) (fun i => m - (intOf i).toNat)
  case atStart => exact ⟨0, by omega, rfl, Lib.hid (by simp)⟩
  case round =>
    obtain ⟨k, hk, rfl, HK⟩ := hrel
    by_cases hlt : k < m
    · obtain ⟨b2, o2, rfl, hbl, hc⟩ := H.out.at k hlt
      obtain ⟨y, hy⟩ : ∃ y, xs.getD k 0 = y := ⟨_, rfl⟩
      rw [hy] at hc
      have HY := Lib.hid hy
      clear hy
      by_cases e : y = x
      · subst e
        have HT : Hid (b = true) := Lib.hid (by rw [← HB.out, decide_eq_true_eq, ← HY.out]; exact getD_mem (by rw [HM.out]; exact hlt))
        go_wp2_with fail
        go_ret
        exact ⟨by rw [HT.out]; rfl, rfl⟩
      · have hyb : (y == x) = false := by simpa using e
        have HN : Hid (decide (x ∈ xs.take (k + 1)) = false) := Lib.hid (by
          have h1 := HK.out
          rw [decide_eq_false_iff_not] at h1 ⊢
          rw [List.take_add_one, List.getElem?_eq_getElem (by rw [HM.out]; exact hlt), List.mem_append]
          rintro (h2 | h2)
          · exact h1 h2
          · have h3 := HY.out
            rw [List.getD_eq_getElem?_getD, List.getElem?_eq_getElem (by rw [HM.out]; exact hlt)] at h3
            simp at h2 h3
            exact e (by rw [← h3, ← h2]))
        go_wp2_with fail
        go_round
        case rel => exact ⟨k + 1, by omega, by go_num, HN⟩
        case measure => simp [intOf]; omega
    · obtain rfl : k = m := by omega
      have HT : Hid (b = false) := Lib.hid (by rw [← HB.out, ← HK.out, List.take_of_length_le (by rw [HM.out]; omega)])
      go_wp2_with fail
      go_ret
      exact ⟨by rw [HT.out]; rfl, rfl⟩
def enR (p : Int × Int) : List Value := [.int .i64 p.1, .int .i64 p.2]
theorem recR : Rec 2 enR := ⟨by omega, fun _ => rfl, fun x u hu => by simp [enR] at hu; rcases hu with rfl | rfl <;> rfl⟩
theorem view_lit {w : World} {b : Nat} {xs : List Int} {cs : Array Value} (h : w.heap[b]? = some (.cells cs 3 (0, 0))) (hcs : cs = (xs.map (Value.int .i64)).toArray) (hl : xs.length ≤ maxLen) : View w (.slice (some ⟨b, 0, none⟩) xs.length xs.length) xs :=
  ⟨_, xs.length, rfl, ⟨Nat.le_refl _, hl⟩, (fun h => by cases h), fun _ => ⟨b, 0, rfl, (Array.getElem?_eq_some_iff.1 h).1, Nat.le_refl _, fun i hi => by
    rw [Nat.zero_add]
    simp only [World.cell?, h, hcs]
    simp [hi]⟩⟩
set_option maxRecDepth 20000 in
set_option maxHeartbeats 8000000 in
theorem rlook_of (av ad ak : Option Addr) (nv cv nd cd n ck : Nat) (vs : List (Int × Int)) (D : List (List Int)) (ks : List Int) (r : Int) (w : World) (hv : RV 2 enR w (.slice av nv cv) vs) (hD : MV w (.slice ad nd cd) D) (hk : View w (.slice ak n ck) ks) (hvn : nv ≤ 100) (hdn : nd ≤ 100) (hrw : ∀ i, (D.getD i []).length ≤ 100) (hr : lkE ks vs D = r) :
    Calls Try.prog 9 #[.slice av nv cv, .slice ad nd cd, .slice ak n ck] w fun e w' => e = .returned (.int .i64 r) ∧ Below w.heap.size w w' := by
  obtain ⟨hvl, hv1, hv2⟩ := hv.len
  obtain ⟨hdl, hd1, hd2⟩ := hD.len
  obtain ⟨hkl, hk1, hk2⟩ := hk.len
  unfold maxLen at hv2 hd2 hk2
  obtain ⟨N8, hN8⟩ : ∃ T, w.heap.size = T := ⟨_, rfl⟩
  have HN8 := Lib.hid hN8
  obtain ⟨W0, hW0⟩ : ∃ W0, (w.alloc (.cells #[.int .i64 0, .int .i64 1, .int .i64 2, .int .i64 7, .int .i64 8, .int .i64 13, .int .i64 17, .int .i64 20] 3)).alloc (.cells #[.int .i64 18, .int .i64 19, .int .i64 21, .int .i64 22, .int .i64 23, .int .i64 24] 3) = W0 := ⟨_, rfl⟩
  have HW0 := Lib.hid hW0
  have hs1 : (w.alloc (.cells #[.int .i64 0, .int .i64 1, .int .i64 2, .int .i64 7, .int .i64 8, .int .i64 13, .int .i64 17, .int .i64 20] 3)).heap.size = N8 + 1 := by rw [← hN8]; simp
  have hA := heap_box1 w #[.int .i64 0, .int .i64 1, .int .i64 2, .int .i64 7, .int .i64 8, .int .i64 13, .int .i64 17, .int .i64 20] 3
  have hB := heap_box1 (w.alloc (.cells #[.int .i64 0, .int .i64 1, .int .i64 2, .int .i64 7, .int .i64 8, .int .i64 13, .int .i64 17, .int .i64 20] 3)) #[.int .i64 18, .int .i64 19, .int .i64 21, .int .i64 22, .int .i64 23, .int .i64 24] 3
  rw [hW0, hs1] at hB
  rw [hN8] at hA
  have hBA : Below w.heap.size w (w.alloc (.cells #[.int .i64 0, .int .i64 1, .int .i64 2, .int .i64 7, .int .i64 8, .int .i64 13, .int .i64 17, .int .i64 20] 3)) := (Below.refl _ _).alloc (Nat.le_refl _) _
  have hBB : Below (w.alloc (.cells #[.int .i64 0, .int .i64 1, .int .i64 2, .int .i64 7, .int .i64 8, .int .i64 13, .int .i64 17, .int .i64 20] 3)).heap.size (w.alloc (.cells #[.int .i64 0, .int .i64 1, .int .i64 2, .int .i64 7, .int .i64 8, .int .i64 13, .int .i64 17, .int .i64 20] 3)) W0 := by rw [← hW0]; exact (Below.refl _ _).alloc (Nat.le_refl _) _
  have hB0 : Below w.heap.size w W0 := trans3 hBA hBB
  have hvn8 : View W0 (.slice (some ⟨N8, 0, none⟩) 8 8) n8 := (view_lit (xs := n8) hA rfl (by simp [n8, maxLen])).below hBB
  have hvl6 : View W0 (.slice (some ⟨N8 + 1, 0, none⟩) 6 6) l6 := view_lit (xs := l6) hB rfl (by simp [l6, maxLen])
  have HN := Lib.hid hvn8
  have HL6 := Lib.hid hvl6
  have HB0 := Lib.hid hB0
  have HSZ0 := Lib.hid hB0.size
  have h0 : Hid (OI W0 W0.heap.size (.slice none 0 0) (snN vs 0)) := Lib.hid (oi_nil _ _)
  have HV := Lib.hid (hv.below hB0)
  have HDD := Lib.hid (hD.below hB0)
  have HK := Lib.hid (hk.below hB0)
  have HVL := Lib.hid hvl
  have HDL := Lib.hid hdl
  have HKL := Lib.hid hkl
  have HR := Lib.hid hr
  have HRW := Lib.hid hrw
  have HLEN : Hid (∀ k, (snN vs k).length ≤ k) := Lib.hid fun k => by
    induction k with
    | zero => exact Nat.le_refl _
    | succ k ih => rw [snN]; unfold sn2; split; omega; rw [List.length_append]; simp; omega
  clear hv hD hk hvl hdl hkl hr hN8 hW0 hs1 hA hB hBA hBB hB0 hvn8 hvl6 hrw
  go_enter Try.func9, Try.ntmps9
  go_wp2_with fail
  rw [HW0.out, HN8.out]
  go_loopw [9, 10] (fun v i wr => ∃ (k : Nat) (vm : Value), vm = v ∧ k ≤ nv ∧ i = .int .i64 (k : Int) ∧ Hid (vR ks vs k = 0) ∧ Hid (OI wr W0.heap.size v (snN vs k)) ∧ Hid (Below W0.heap.size W0 wr)) (fun _ i _ => nv - (intOf i).toNat)
  case atStart => exact ⟨0, _, rfl, by omega, rfl, Lib.hid rfl, h0, Lib.hid (Below.refl _ _)⟩
  case round =>
    clear h0 HW0
    obtain ⟨k, vm, rfl, hk, rfl, HZ, HO, HB⟩ := hrel
    obtain ⟨sa, sc, rfl, _⟩ := OI.form HO.out
    have hlen := HLEN.out k
    obtain ⟨seen, hseen⟩ : ∃ s, snN vs k = s := ⟨_, rfl⟩
    rw [hseen] at HO hlen ⊢
    obtain ⟨sl, hsl⟩ : ∃ l, seen.length = l := ⟨_, rfl⟩
    rw [hsl] at HO hlen ⊢
    have HSL := Lib.hid hsl
    have HSEEN := Lib.hid hseen
    clear hsl hseen
    by_cases hlt : k < nv
    · obtain ⟨b, o, rfl, hbl, hc⟩ := (HV.out.below HB.out).at k _ (getD_vs (by rw [← HVL.out]; exact hlt))
      obtain ⟨p, hp⟩ : ∃ p, vs.getD k (0, 0) = p := ⟨_, rfl⟩
      rw [hp] at hc
      obtain ⟨s, id⟩ := p
      have c0 : wr.cell? ⟨b, o + k * 2, none⟩ = some (.int .i64 s) := hc 0 _ rfl
      have c1 : wr.cell? ⟨b, o + k * 2 + 1, none⟩ = some (.int .i64 id) := hc 1 _ rfl
      obtain ⟨d, hd⟩ : ∃ d, vwE ks seen s id = d := ⟨_, rfl⟩
      have HV1 : Hid (vR ks vs (k + 1) = d) := Lib.hid (by rw [vR, if_pos HZ.out, HSEEN.out, hp, hd])
      have HSN : Hid (snN vs (k + 1) = sn2 seen id) := Lib.hid (by rw [snN, hp, HSEEN.out])
      have HF : Hid (d ≠ 0 → r = d) := Lib.hid (fun hd0 => by
        have h1 := vR_stay ks vs (k + 1) vs.length (by rw [← HVL.out]; exact hlt) (by rw [HV1.out]; exact hd0)
        rw [HV1.out] at h1
        rw [← HR.out]
        unfold lkE
        rw [h1, if_neg hd0])
      have HBw := Lib.hid (trans3 HB0.out HB.out)
      have CN := fun b hb => rhas10_of (.slice (some ⟨N8, 0, none⟩) 8 8) n8 s b wr.drew ((HN.out.below HB.out).below (by go_grown)) (by simp [n8]) hb
      have CS := fun b hb => rhas10_of (.slice sa sl sc) seen id b wr.drew ((view_of_own HO.out).below (by go_grown)) (by rw [HSL.out]; omega) hb
      have HOd := Lib.hid (OI.below HO.out (w' := wr.drew) (by go_grown))
      have HBd := Lib.hid (HB.out.drew)
      have HBwd := Lib.hid (HBw.out.drew)
      unfold vwE at hd
      clear hc hp HO HB HBw
      go_wp2_with fail
      go_region
      by_cases hs0 : s < 0
      · rw [if_pos (.inl hs0)] at hd
        subst hd
        clear CN CS
        go_wp2_with fail
        go_ret
        exact ⟨by rw [HF.out (by decide)]; rfl, HBwd.out⟩
      by_cases hs1 : 24 < s
      · rw [if_pos (.inr hs1)] at hd
        subst hd
        clear CN CS
        go_wp2_with fail
        go_ret
        exact ⟨by rw [HF.out (by decide)]; rfl, HBwd.out⟩
      rw [if_neg (show ¬ (s < 0 ∨ 24 < s) by omega)] at hd
      obtain ⟨em, hem⟩ : ∃ b, decide (s ∈ n8) = b := ⟨_, rfl⟩
      replace CN := Lib.hid (CN em hem)
      by_cases hid : id = 0
      · subst hid
        by_cases hs3 : s = 3
        · subst hs3
          rw [if_neg (by simp), if_pos rfl] at hd
          subst hd
          obtain rfl : em = false := by rw [← hem]; decide
          clear CS hem
          go_wp2_with (first | (go_at_call 31; (with_reducible refine CN.out.mono ?_); rintro e w9 ⟨rfl, rfl⟩))
          go_roundw
          case rel => exact ⟨k + 1, _, rfl, by omega, by go_num, HV1, by rw [HSN.out]; unfold sn2; rw [if_pos rfl]; exact HOd, HBd⟩
          case measure => simp [intOf]; omega
        · have hs3b : (s == 3) = false := by simpa using hs3
          have hs3n : (s != 3) = true := by simpa using hs3
          cases em with
          | false =>
            rw [if_pos (.inr ⟨rfl, of_decide_eq_false hem, hs3⟩)] at hd
            subst hd
            clear CS hem
            go_wp2_with (first | (go_at_call 31; (with_reducible refine CN.out.mono ?_); rintro e w9 ⟨rfl, rfl⟩))
            go_ret
            exact ⟨by rw [HF.out (by decide)]; rfl, HBwd.out⟩
          | true =>
            rw [if_neg (by have := of_decide_eq_true hem; simp [this]), if_pos rfl] at hd
            subst hd
            clear CS hem
            go_wp2_with (first | (go_at_call 31; (with_reducible refine CN.out.mono ?_); rintro e w9 ⟨rfl, rfl⟩))
            go_roundw
            case rel => exact ⟨k + 1, _, rfl, by omega, by go_num, HV1, by rw [HSN.out]; unfold sn2; rw [if_pos rfl]; exact HOd, HBd⟩
            case measure => simp [intOf]; omega
      · have hidb : (id == 0) = false := by simpa using hid
        have hidn : (id != 0) = true := by simpa using hid
        cases em with
        | true =>
          rw [if_pos (.inl ⟨hid, of_decide_eq_true hem⟩)] at hd
          subst hd
          clear CS hem
          go_wp2_with (first | (go_at_call 31; (with_reducible refine CN.out.mono ?_); rintro e w9 ⟨rfl, rfl⟩))
          go_ret
          exact ⟨by rw [HF.out (by decide)]; rfl, HBwd.out⟩
        | false =>
          rw [if_neg (by have := of_decide_eq_false hem; simp [this, hid]), if_neg hid] at hd
          clear hem
          by_cases h1 : id < 1
          · have ht : tkE ks seen id = 7 := by unfold tkE; rw [if_pos (.inl h1)]
            rw [ht, if_pos (by decide)] at hd
            subst hd
            clear CS ht
            go_wp2_with (first | (go_at_call 31; (with_reducible refine CN.out.mono ?_); rintro e w9 ⟨rfl, rfl⟩))
            go_ret
            exact ⟨by rw [HF.out (by decide)]; rfl, HBwd.out⟩
          by_cases h2 : (n : Int) < id
          · have ht : tkE ks seen id = 7 := by unfold tkE; rw [if_pos (.inr (.inl (by rw [← HKL.out]; exact h2)))]
            rw [ht, if_pos (by decide)] at hd
            subst hd
            clear CS ht
            go_wp2_with (first | (go_at_call 31; (with_reducible refine CN.out.mono ?_); rintro e w9 ⟨rfl, rfl⟩))
            go_ret
            exact ⟨by rw [HF.out (by decide)]; rfl, HBwd.out⟩
          obtain ⟨j, hj⟩ : ∃ j : Nat, id = (j : Int) + 1 := ⟨(id - 1).toNat, by omega⟩
          subst hj
          have hjn : j < n := by omega
          have hjI : (j : Int) < (n : Int) := by omega
          have e : ((j : Int) + 1 - 1).toNat = j := by omega
          rw [e] at hd
          obtain ⟨bk, ok, rfl, hbk, hck⟩ := (HK.out.below HBd.out).at j hjn
          obtain ⟨x, hx⟩ : ∃ x, ks.getD j 0 = x := ⟨_, rfl⟩
          rw [hx] at hck hd
          by_cases h3 : x = 0
          · have ht : tkE ks seen ((j : Int) + 1) = 7 := by unfold tkE; rw [if_pos (.inr (.inr (by rw [e, hx]; exact h3)))]
            rw [ht, if_pos (by decide)] at hd
            subst hd
            subst h3
            clear CS ht hx
            go_wp2_with (first | (go_at_call 31; (with_reducible refine CN.out.mono ?_); rintro e w9 ⟨rfl, rfl⟩))
            go_ret
            exact ⟨by rw [HF.out (by decide)]; rfl, HBwd.out⟩
          have hxb : (x == 0) = false := by simpa using h3
          have hno : ¬ ((j : Int) + 1 < 1 ∨ (ks.length : Int) < (j : Int) + 1 ∨ ks.getD ((j : Int) + 1 - 1).toNat 0 = 0) := by
            rw [e, hx, ← HKL.out]; omega
          obtain ⟨sb, hsb⟩ : ∃ b, decide ((j : Int) + 1 ∈ seen) = b := ⟨_, rfl⟩
          replace CS := Lib.hid (CS sb hsb)
          cases sb with
          | true =>
            have ht : tkE ks seen ((j : Int) + 1) = 10 := by unfold tkE; rw [if_neg hno, if_pos (of_decide_eq_true hsb)]
            rw [ht, if_pos (by decide)] at hd
            subst hd
            clear ht hx hno hsb
            go_wp2_with (first | (go_at_call 31; (with_reducible refine CN.out.mono ?_); rintro e w9 ⟨rfl, rfl⟩) | (go_at_call 31; (with_reducible refine CS.out.mono ?_); rintro e w9 ⟨rfl, rfl⟩))
            go_ret
            exact ⟨by rw [HF.out (by decide)]; rfl, HBwd.out⟩
          | false =>
            have ht : tkE ks seen ((j : Int) + 1) = 0 := by unfold tkE; rw [if_neg hno, if_neg (of_decide_eq_false hsb)]
            rw [ht, if_neg (by decide)] at hd
            have hn2 : Below wr.drew.heap.size wr.drew (wr.drew.alloc (.cells #[.int .i64 ((j : Int) + 1)] 3)) := (Below.refl _ _).alloc (Nat.le_refl _) _
            have HO2 := Lib.hid (OI.below HOd.out hn2)
            have HB2 := Lib.hid (HBd.out.trans (hn2.mono HBd.out.size))
            have hz2 : W0.heap.size ≤ (wr.drew.alloc (.cells #[.int .i64 ((j : Int) + 1)] 3)).heap.size := by have := HBd.out.size; simp at *; omega
            have HLt : Hid (∀ q, (Value.slice sa sl sc).ownBlock = some q → W0.heap.size ≤ q) := Lib.hid (fun q e => (own_ltI HOd.out q e).1)
            have HX := Lib.hid hx
            obtain ⟨lo, hlo⟩ : ∃ lo, decide (s ∈ l6) = lo := ⟨_, rfl⟩
            obtain ⟨il, hil⟩ : ∃ il, (x == 3) = il := ⟨_, rfl⟩
            have hil2 : decide (x = 3) = il := by rw [← hil]; rfl
            rw [hil2, hlo] at hd
            have HD2 := Lib.hid hd
            have HLO := Lib.hid hlo
            clear ht hx hno hsb hn2 hd hlo hil2
            go_wp2_with (first | (go_at_call 31; (with_reducible refine CN.out.mono ?_); rintro e w9 ⟨rfl, rfl⟩) | (go_at_call 31; (with_reducible refine CS.out.mono ?_); rintro e w9 ⟨rfl, rfl⟩) | (at_builtin; refine wpList_app1 rfl _ _ rfl W0.heap.size _ seen rfl ⟨wr.drew.heap.size, 0, none⟩ 1 rfl ((j : Int) + 1) HO2.out (by go_simp) rfl (by rw [HSL.out]; omega) hz2 ?_))
            intro v2 W3 hr2 hg2 ho2
            replace hr2 : OI W3 W0.heap.size v2 (seen ++ [(j : Int) + 1]) := by unfold OI; simpa using hr2
            have HO3 := Lib.hid hr2
            have HB3 := Lib.hid (HB2.out.grown hg2 hz2 HLt.out)
            have HBw3 := Lib.hid (trans3 HB0.out HB3.out)
            have hck3 : W3.cell? ⟨bk, ok + j, none⟩ = some (.int .i64 x) := by
              obtain ⟨b9, o9, e9, _, h9⟩ := (HK.out.below HB3.out).at j hjn
              cases e9
              rw [h9, HX.out]
            have HSNN : Hid (snN vs (k + 1) = seen ++ [(j : Int) + 1]) := Lib.hid (by rw [HSN.out]; unfold sn2; rw [if_neg hid])
            clear hr2 hg2 ho2 HO2 HB2 hck CN CS
            have CL := Lib.hid (fun q => quiet_eq (rhas10_of (.slice (some ⟨N8 + 1, 0, none⟩) 6 6) l6 s lo (W3.drewN q) ((HL6.out.below HB3.out).drewN q) (by simp [l6]) HLO.out))
            by_cases hs3 : s = 3
            · subst hs3
              have hd0 : d = 0 := by rw [← HD2.out]; simp
              subst hd0
              clear CL
              go_wp2_with fail
              go_quiet (fail)
              go_wp2_with fail
              go_roundw
              case rel => exact ⟨k + 1, _, rfl, by omega, by go_num, HV1, by rw [HSNN.out]; exact Lib.hid (OI.below HO3.out (below_drewN (Below.refl _ _) _)), Lib.hid (below_drewN HB3.out _)⟩
              case measure => simp [intOf]; omega
            · have hs3b : (s == 3) = false := by simpa using hs3
              have hs3n : (s != 3) = true := by simpa using hs3
              by_cases hil3 : il = lo
              · subst hil3
                have hd0 : d = 0 := by rw [← HD2.out, if_neg (by simp)]
                subst hd0
                have hnn : (il != il) = false := by simp
                go_wp2_with fail
                go_quiet ((go_at_call 31; exact CL.out _))
                go_wp2_with fail
                go_roundw
                case rel => exact ⟨k + 1, _, rfl, by omega, by go_num, HV1, by rw [HSNN.out]; exact Lib.hid (OI.below HO3.out (below_drewN (Below.refl _ _) _)), Lib.hid (below_drewN HB3.out _)⟩
                case measure => simp [intOf]; omega
              · have hd5 : d = 5 := by rw [← HD2.out, if_pos ⟨hs3, hil3⟩]
                subst hd5
                have hnn : (il != lo) = true := by simpa using hil3
                have hnm : (il == lo) = false := by simpa using hil3
                go_wp2_with fail
                go_quiet ((go_at_call 31; exact CL.out _))
                go_wp2_with fail
                go_ret
                exact ⟨by rw [HF.out (by decide)]; rfl, below_drewN HBw3.out _⟩
    · obtain rfl : k = nv := by omega
      have HZ2 : Hid (lkE ks vs D = dR ks seen D D.length) := Lib.hid (by unfold lkE; rw [← HVL.out, HZ.out, if_pos rfl, HSEEN.out])
      have HS1 : Hid (OI wr W0.heap.size (.slice sa sl sc) (dS seen D 0)) := Lib.hid (by unfold dS; simpa using HO.out)
      have HB1 := HB
      have HLD : Hid (∀ i, i ≤ 100 → (dS seen D i).length ≤ 100 + 100 * i) := Lib.hid fun i hi => by
        have key : ∀ i, (dS seen D i).length ≤ 100 + 100 * i := by
          intro i
          induction i with
          | zero => unfold dS; simp; rw [HSL.out]; omega
          | succ i ih =>
            by_cases h : i < D.length
            · rw [dS_next h, List.length_append]; have := HRW.out i; omega
            · have : dS seen D (i + 1) = dS seen D i := by unfold dS; rw [List.take_of_length_le (by omega), List.take_of_length_le (by omega)]
              rw [this]; omega
        exact key i
      have hsl0 : (dS seen D 0).length = sl := by unfold dS; simp; exact HSL.out
      rw [← hsl0] at HS1 ⊢
      clear HO HB HZ hsl0
      go_wp2_with fail
      go_loopw [9, 13] (fun v i wi => ∃ (i' : Nat) (vm : Value), vm = v ∧ i' ≤ nd ∧ i = .int .i64 (i' : Int) ∧ Hid (dR ks seen D i' = 0) ∧ Hid (OI wi W0.heap.size v (dS seen D i')) ∧ Hid (Below W0.heap.size W0 wi)) (fun _ i _ => nd - (intOf i).toNat)
      case atStart => exact ⟨0, _, rfl, by omega, rfl, Lib.hid rfl, HS1, HB1⟩
      case round =>
        clear HS1 HB1
        obtain ⟨i', vm, rfl, hi', rfl, HZ, HO, HB⟩ := hrel
        by_cases hil : i' < nd
        · obtain ⟨b, o, a1, c1, rfl, hbl, hcl0, hv0⟩ := HDD.out.row i' hil
          obtain ⟨_, hr1, hr2⟩ := hv0.len
          unfold maxLen at hr2
          obtain ⟨row, hrow⟩ : ∃ row, D.getD i' [] = row := ⟨_, rfl⟩
          have hrl := HRW.out i'
          rw [hrow] at hcl0 hv0 hr1 hrl
          obtain ⟨m, hm⟩ : ∃ m, row.length = m := ⟨_, rfl⟩
          rw [hm] at hcl0 hv0 hr1 hrl
          have HC0 := Lib.hid hcl0
          have HV0 := Lib.hid hv0
          have HM := Lib.hid hm
          have HRO := Lib.hid hrow
          obtain ⟨ds, hds⟩ : ∃ s, dS seen D i' = s := ⟨_, rfl⟩
          have hdsl : ds.length ≤ 20000 := by rw [← hds]; have := HLD.out i' (by omega); omega
          rw [hds] at HO
          have HDS := Lib.hid hds
          have HS1 : Hid (OI wr W0.heap.size vm (ds ++ row.take 0)) := Lib.hid (by rw [List.take_zero, List.append_nil]; exact HO.out)
          have HB1 := HB
          clear hcl0 hv0 hrow hm hds HO HB
          go_wp2_with fail
          go_loopw [9, 14] (fun v i wi => ∃ (j : Nat) (vm : Value), vm = v ∧ j ≤ m ∧ i = .int .i64 (j : Int) ∧ Hid (rR ks ds row j = 0) ∧ Hid (OI wi W0.heap.size v (ds ++ row.take j)) ∧ Hid (Below W0.heap.size W0 wi)) (fun _ i _ => m - (intOf i).toNat)
          case atStart => exact ⟨0, _, rfl, by omega, rfl, Lib.hid rfl, HS1, HB1⟩
          case round =>
            clear HS1 HB1
            obtain ⟨j, vm, rfl, hj, rfl, HRZ, HO, HB⟩ := hrel
            have hcl := (HB.out.cell (p := ⟨b, o + i', none⟩) hbl).trans HC0.out
            by_cases hjl : j < m
            · obtain ⟨b2, o2, rfl, hbl3, hcx⟩ := (HV0.out.below HB.out).at j hjl
              obtain ⟨id, hx⟩ : ∃ x, row.getD j 0 = x := ⟨_, rfl⟩
              rw [hx] at hcx
              obtain ⟨sn, hsn⟩ : ∃ s, ds ++ row.take j = s := ⟨_, rfl⟩
              have hsnl : sn.length ≤ 21000 := by rw [← hsn, List.length_append, List.length_take]; omega
              rw [hsn] at HO
              obtain ⟨sa2, sc2, rfl, _⟩ := OI.form HO.out
              obtain ⟨d, hd⟩ : ∃ d, tkE ks sn id = d := ⟨_, rfl⟩
              have HR1 : Hid (rR ks ds row (j + 1) = d) := Lib.hid (by rw [rR, if_pos HRZ.out, hx, hsn, hd])
              have HT1 : Hid (ds ++ row.take (j + 1) = sn ++ [id]) := Lib.hid (by rw [take_succ_at (by rw [HM.out]; exact hjl) hx, ← hsn, List.append_assoc])
              have HF : Hid (d ≠ 0 → r = d) := Lib.hid (fun hd0 => by
                have h1 := rR_stay ks ds row (j + 1) row.length (by rw [HM.out]; exact hjl) (by rw [HR1.out]; exact hd0)
                rw [HR1.out] at h1
                have h2 : dR ks seen D (i' + 1) = d := by rw [dR, if_pos HZ.out, HRO.out, HDS.out, h1]
                have h3 := dR_stay ks seen D (i' + 1) D.length (by rw [← HDL.out]; exact hil) (by rw [h2]; exact hd0)
                rw [← HR.out, HZ2.out, h3, h2])
              have HBw := Lib.hid (trans3 HB0.out HB.out)
              obtain ⟨l2, hl2⟩ : ∃ l, sn.length = l := ⟨_, rfl⟩
              have CS := fun b hb => rhas10_of (.slice sa2 sn.length sc2) sn id b wr (view_of_own HO.out) (by omega) hb
              rw [hl2] at HO CS hsnl ⊢
              have HL2 := Lib.hid hl2
              unfold tkE at hd
              clear hx hsn hl2
              by_cases h1 : id < 1
              · rw [if_pos (.inl h1)] at hd
                subst hd
                clear CS
                go_wp2_with fail
                go_ret
                exact ⟨by rw [HF.out (by decide)]; rfl, HBw.out⟩
              by_cases h2 : (n : Int) < id
              · rw [if_pos (.inr (.inl (by rw [← HKL.out]; exact h2)))] at hd
                subst hd
                clear CS
                go_wp2_with fail
                go_ret
                exact ⟨by rw [HF.out (by decide)]; rfl, HBw.out⟩
              obtain ⟨q, hq⟩ : ∃ q : Nat, id = (q : Int) + 1 := ⟨(id - 1).toNat, by omega⟩
              subst hq
              have hqn : q < n := by omega
              have hqI : (q : Int) < (n : Int) := by omega
              have e : ((q : Int) + 1 - 1).toNat = q := by omega
              rw [e] at hd
              obtain ⟨bk, ok, rfl, hbk, hck⟩ := (HK.out.below HB.out).at q hqn
              obtain ⟨x, hx⟩ : ∃ x, ks.getD q 0 = x := ⟨_, rfl⟩
              rw [hx] at hck hd
              by_cases h3 : x = 0
              · rw [if_pos (.inr (.inr h3))] at hd
                subst hd
                subst h3
                clear CS hx
                go_wp2_with fail
                go_ret
                exact ⟨by rw [HF.out (by decide)]; rfl, HBw.out⟩
              have hxb : (x == 0) = false := by simpa using h3
              rw [if_neg (show ¬ ((q : Int) + 1 < 1 ∨ (ks.length : Int) < (q : Int) + 1 ∨ x = 0) by rw [← HKL.out]; omega)] at hd
              obtain ⟨sb, hsb⟩ : ∃ b, decide ((q : Int) + 1 ∈ sn) = b := ⟨_, rfl⟩
              replace CS := Lib.hid (CS sb hsb)
              cases sb with
              | true =>
                rw [if_pos (of_decide_eq_true hsb)] at hd
                subst hd
                clear hx hsb
                go_wp2_with (first | (go_at_call 31; (with_reducible refine CS.out.mono ?_); rintro e w9 ⟨rfl, rfl⟩))
                go_ret
                exact ⟨by rw [HF.out (by decide)]; rfl, HBw.out⟩
              | false =>
                rw [if_neg (of_decide_eq_false hsb)] at hd
                subst hd
                have hn2 : Below wr.heap.size wr (wr.alloc (.cells #[.int .i64 ((q : Int) + 1)] 3)) := (Below.refl _ _).alloc (Nat.le_refl _) _
                have HO2 := Lib.hid (OI.below HO.out hn2)
                have HB2 := Lib.hid (HB.out.trans (hn2.mono HB.out.size))
                have hz2 : W0.heap.size ≤ (wr.alloc (.cells #[.int .i64 ((q : Int) + 1)] 3)).heap.size := by have := HB.out.size; simp at *; omega
                have HLt : Hid (∀ g, (Value.slice sa2 l2 sc2).ownBlock = some g → W0.heap.size ≤ g) := Lib.hid (fun g e => (own_ltI HO.out g e).1)
                clear hx hsb hn2 HO HB
                go_wp2_with (first | (go_at_call 31; (with_reducible refine CS.out.mono ?_); rintro e w9 ⟨rfl, rfl⟩) | (at_builtin; refine wpList_app1 rfl _ _ rfl W0.heap.size _ sn rfl ⟨wr.heap.size, 0, none⟩ 1 rfl ((q : Int) + 1) HO2.out (by go_simp) rfl (by rw [HL2.out]; omega) hz2 ?_))
                intro v2 W3 hr2 hg2 ho2
                replace hr2 : OI W3 W0.heap.size v2 (sn ++ [(q : Int) + 1]) := by unfold OI; simpa using hr2
                have HO3 := Lib.hid hr2
                have HB3 := Lib.hid (HB2.out.grown hg2 hz2 HLt.out)
                clear hr2 hg2 ho2 HO2 HB2
                go_wp2_with fail
                go_roundw
                case rel => exact ⟨j + 1, _, rfl, by omega, by go_num, HR1, by rw [HT1.out]; exact HO3, HB3⟩
                case measure => simp [intOf]; omega
            · obtain rfl : j = m := by omega
              have HS5 : Hid (OI wr W0.heap.size vm (dS seen D (i' + 1))) := Lib.hid (by
                rw [dS_next (by rw [← HDL.out]; exact hil), HRO.out, HDS.out]
                have := HO.out
                rw [List.take_of_length_le (by rw [HM.out]; omega)] at this
                exact this)
              have HZ5 : Hid (dR ks seen D (i' + 1) = 0) := Lib.hid (by rw [dR, if_pos HZ.out, HRO.out, HDS.out, HM.out, HRZ.out])
              clear HO
              go_wp2_with fail
              go_roundw
              case rel => exact ⟨i' + 1, _, rfl, by omega, by go_num, HZ5, HS5, HB⟩
              case measure => simp [intOf]; omega
        · obtain rfl : i' = nd := by omega
          have HF : Hid (r = 0) := Lib.hid (by rw [← HR.out, HZ2.out, ← HDL.out, HZ.out])
          go_wp2_with fail
          go_ret
          exact ⟨by rw [HF.out]; rfl, trans3 HB0.out HB.out⟩
end Go.Proofs.Ytpflimnngilhnaa.au
