/- ReachOrders, the walk (layer 31). -/
import Derived.Test.YtciojgkgfhpaaaaRhW
import Derived.Test.YtciojgkgfhpaaaaMats
import Derived.Test.YtciojgkgfhpaaaaApp1
namespace Go.Proofs.Ytciojgkgfhpaaaa.reachOrders
open Go.ChangeShapes Go.WideShapes Go.ChangeAt Go.RowKit
open Go.Proofs.Ytciojgkgfhpaaaa.rh
set_option linter.unusedVariables false
set_option linter.unusedSimpArgs false
theorem trans3 {w w1 w2 : World} (h : Below w.heap.size w w1) (k : Below w1.heap.size w1 w2) : Below w.heap.size w w2 := h.trans (k.mono h.size)
def nsq (k : Nat) : List Int := (List.range k).map fun (i : Nat) => (i : Int)
theorem nsq_len (k : Nat) : (nsq k).length = k := by simp [nsq]
theorem nsq_succ (k : Nat) : nsq (k + 1) = nsq k ++ [(k : Int)] := by simp [nsq, List.range_succ]
theorem nsq_at {k i : Nat} (h : i < k) : (nsq k).getD i 0 = (i : Int) := by
  simp [nsq, List.getD_eq_getElem?_getD, List.getElem?_range h]
theorem nsq_take {k i : Nat} (h : i ≤ k) : (nsq k).take i = nsq i := by
  unfold nsq
  rw [← List.map_take, List.take_range, Nat.min_eq_left h]
theorem nsq_mem {k : Nat} {x : Int} : x ∈ nsq k ↔ 0 ≤ x ∧ x < (k : Int) := by
  unfold nsq
  rw [List.mem_map]
  constructor
  · rintro ⟨i, h, rfl⟩
    have := List.mem_range.1 h
    omega
  · rintro ⟨h1, h2⟩
    exact ⟨x.toNat, List.mem_range.2 (by omega), by omega⟩
theorem orN_all {L : List (List Int)} (hv : Valid L) (n : Nat) : ∀ k, k ≤ n → orN L n (nsq n) k = true := by
  intro k
  induction k with
  | zero => intro _; rfl
  | succ k ih =>
    intro hk
    simp only [orN, Bool.and_eq_true]
    refine ⟨ih (by omega), ?_⟩
    unfold stO
    rw [nsq_at (by omega), Int.toNat_natCast]
    have h1 : inB (k : Int) n = true := by unfold inB; simp; omega
    have h2 : cI (nsq n) k (k : Int) = false := by
      unfold cI
      rw [nsq_take (by omega)]
      simp only [decide_eq_false_iff_not, nsq_mem]
      omega
    have h3 : (L.getD k []).all (cI (nsq n) k) = true := List.all_eq_true.2 fun a ha => by
      unfold cI
      rw [nsq_take (by omega), decide_eq_true_eq, nsq_mem]
      exact hv k a ha
    rw [h1, h2, h3]; rfl
theorem oi_nil (w : World) (B : Nat) : OI w B (.slice none 0 0) [] := World.ownsRow_nil _ _ _ _
theorem own_ltI {w : World} {B : Nat} {v : Value} {xs : List Int} (h : OI w B v xs) : ∀ k, v.ownBlock = some k → B ≤ k ∧ k < w.heap.size := by
  intro k hk
  obtain ⟨_, ⟨rfl, _⟩ | ⟨g2, cap2, cur2, rfl, h1, hh2, _⟩⟩ := h
  · simp [Value.ownBlock] at hk
  · simp [Value.ownBlock] at hk
    subst hk
    exact ⟨h1, (Array.getElem?_eq_some_iff.1 hh2).1⟩
theorem nn (v : Bool) : (v != v) = false := by simp
set_option maxRecDepth 20000 in
set_option maxHeartbeats 4000000 in
theorem walk (a0 : Option Addr) (len0 cap0 : Nat) (z0 : List (List Int)) (a1 : Option Addr) (len1 cap1 : Nat) (z1 : List Int) (w : World) (w0 : IsMat w a0 len0 cap0 z0) (w1 : IsRow .i64 w a1 len1 cap1 z1) :
    Calls Try.prog 5 #[.slice a0 len0 cap0, .slice a1 len1 cap1] w fun e w' => e = .returned (.bool true) ∧ Below w.heap.size w w' := by
  have HM := Lib.hid w0.1
  have HLN := Lib.hid w0.1.len.1
  have HV := Lib.hid (view_of_row w1)
  obtain ⟨xs, hxs⟩ : ∃ xs, z1.take len1 = xs := ⟨_, rfl⟩
  rw [hxs] at HV
  obtain rfl := HV.out.len.1
  have HXL : Hid (xs.length = xs.length) := Lib.hid rfl
  clear w0 w1 hxs
  have CW := Lib.hid (works_of w)
  cases hg : grB z0 len0 with
  | true =>
    have CG := Lib.hid (fun w1 h => great_of a0 len0 cap0 z0 true w1 h hg)
    go_enter Try.func5, Try.ntmps5
    go_wp2_with (first | (go_at_call 7; (with_reducible refine CW.out.mono ?_); rintro e w1 ⟨rfl, HB1⟩))
    have HM1 := Lib.hid (HM.out.below HB1)
    have HBH := Lib.hid HB1
    have C := Lib.hid (CG.out w1 HM1.out)
    clear HB1 CW HM
    go_wp2_with (first | (go_at_call 8; (with_reducible refine C.out.mono ?_); rintro e w2 ⟨rfl, rfl⟩))
    go_ret
    exact ⟨rfl, HBH.out⟩
  | false =>
    have CG := Lib.hid (fun w1 h => great_of a0 len0 cap0 z0 false w1 h hg)
    obtain ⟨hn, hrow⟩ := grB_false hg
    have HRW := Lib.hid hrow
    clear hg hrow
    by_cases hbig : 200 < xs.length
    · have hbI : (200 : Int) < (xs.length : Int) := by omega
      go_enter Try.func5, Try.ntmps5
      go_wp2_with (first | (go_at_call 7; (with_reducible refine CW.out.mono ?_); rintro e w1 ⟨rfl, HB1⟩))
      have HM1 := Lib.hid (HM.out.below HB1)
      have HBH := Lib.hid HB1
      have C := Lib.hid (CG.out w1 HM1.out)
      clear HB1 CW HM
      go_wp2_with (first | (go_at_call 8; (with_reducible refine C.out.mono ?_); rintro e w2 ⟨rfl, rfl⟩))
      go_ret
      exact ⟨rfl, HBH.out⟩
    have hbI : ¬ (200 : Int) < (xs.length : Int) := by omega
    have CO := Lib.hid (fun w1 h => own_of a0 len0 cap0 z0 w1 h (by omega) (fun i hi => by have := HRW.out i hi; omega))
    unfold OwnPost at CO
    obtain ⟨v, hv⟩ : ∃ v, orN z0 len0 xs xs.length = v := ⟨_, rfl⟩
    have hvv := nn v
    have C1 := Lib.hid (fun av cv w a m c h hl => order_of av a len0 cv m c z0 xs v w h hl hn)
    have C2 := Lib.hid (fun w h hl => rorder_of a0 a1 len0 cap0 xs.length cap1 z0 xs v w h hl hn hv)
    have HVV := Lib.hid hv
    have CKH := Lib.hid (ck_cases z0)
    obtain ⟨c, hc⟩ : ∃ c, ck z0 = c := ⟨_, rfl⟩
    have C3 := Lib.hid (fun w h => rcheck_of a0 len0 cap0 z0 c w h hc)
    have HCC := Lib.hid hc
    clear hc hv
    go_enter Try.func5, Try.ntmps5
    go_wp2_with (first | (go_at_call 7; (with_reducible refine CW.out.mono ?_); rintro e w1 ⟨rfl, HB1⟩))
    have HM1 := Lib.hid (HM.out.below HB1)
    have HV1 := Lib.hid (HV.out.below HB1)
    have HBH := Lib.hid HB1
    have D1 := Lib.hid (CG.out w1 HM1.out)
    have D2 := Lib.hid (CO.out w1 HM1.out)
    clear HB1 CW HM CG HV
    go_wp2_with (first | (go_at_call 8; (with_reducible refine D1.out.mono ?_); rintro e w2 ⟨rfl, rfl⟩) | (go_at_call 10; (with_reducible refine D2.out.mono ?_); (rintro e w2 ⟨v2, rfl, HV2, HB2⟩); (obtain ⟨av, cv, rfl, _⟩ := HV2.form); (rw [← HLN.out] at HV2); (rw [← HLN.out])) | (at_builtin; refine wpList_copy_row rfl _ _ rfl w2.heap.size w2.heap.size rfl (heap_alloc_new _ _) (Nat.le_refl _) xs (View.below (View.below HV1.out HB2) ((Below.refl _ _).alloc (Nat.le_refl _) _)) (by omega) ?_))
    have HM2 := Lib.hid (HM1.out.below HB2)
    have HVX := Lib.hid (HV1.out.below HB2)
    have HMV := Lib.hid HV2
    have HBH2 := Lib.hid (trans3 HBH.out HB2)
    clear D1 D2 HV2 HB2 HBH HM1 HV1
    intro v3 w3 hr3 hb3
    have hb3' : Below w2.heap.size w2 w3 := ((Below.refl _ _).alloc (Nat.le_refl _) _).trans hb3
    have hv3 := view_of_own (xs := xs) hr3
    obtain ⟨a3, cap3, rfl, _⟩ := hv3
    have hv3 := view_of_own (xs := xs) hr3
    have HM3 := Lib.hid (HM2.out.below hb3')
    have HVX3 := Lib.hid (HVX.out.below hb3')
    have HBH3 := Lib.hid (trans3 HBH2.out hb3')
    have E1 := Lib.hid (C1.out av cv w3 a3 xs.length cap3 (HMV.out.below hb3') hv3 HVV.out)
    clear hr3 hb3 hb3' hv3 HMV HM2 HVX HBH2 C1
    go_wp2_with (first | (go_at_call 19; (with_reducible refine E1.out.mono ?_); rintro e w4 ⟨rfl, HB4⟩))
    have HM4 := Lib.hid (HM3.out.below HB4)
    have HBH4 := Lib.hid (trans3 HBH3.out HB4)
    have E2 := Lib.hid (C2.out w4 HM4.out (HVX3.out.below HB4))
    clear E1 HB4 HM3 HVX3 HBH3 C2
    go_wp2_with (first | (go_at_call 20; (with_reducible refine E2.out.mono ?_); rintro e w5 ⟨rfl, HB5⟩))
    have HM5 := Lib.hid (HM4.out.below HB5)
    have HBH5 := Lib.hid (trans3 HBH4.out HB5)
    have E3 := Lib.hid (C3.out w5 HM5.out)
    have E4 := Lib.hid (fun w h => CO.out w h)
    clear E2 HB5 HM4 HBH4 C3
    by_cases h0 : c = 9 ∨ c = 3
    · rcases h0 with rfl | rfl
      all_goals
        go_wp2_with (first | (go_at_call 11; (with_reducible refine E3.out.mono ?_); rintro e w6 ⟨rfl, rfl⟩))
        go_ret
        exact ⟨rfl, HBH5.out⟩
    · have hc0 : c = 0 := by
        have := CKH.out
        have := HCC.out
        omega
      subst hc0
      have hn1 : len0 ≤ 1000 := by have := CKH.out; have := HCC.out; rw [HLN.out]; omega
      have HVa : Hid (Valid z0) := Lib.hid (valid_of (by have := HCC.out; rcases CKH.out with h | h | h; omega; omega; exact h.2.2))
      clear h0
      have H0 : Hid (OI w5 w5.heap.size (.slice none 0 0) (nsq 0)) := Lib.hid (oi_nil _ _)
      go_wp2_with (first | (go_at_call 11; (with_reducible refine E3.out.mono ?_); rintro e w6 ⟨rfl, rfl⟩))
      go_loopw [5, 6] (fun v i wr => ∃ (k : Nat) (vm : Value), vm = v ∧ k ≤ len0 ∧ i = .int .i64 (k : Int) ∧ Hid (OI wr w5.heap.size v (nsq k)) ∧ Hid (Below w5.heap.size w5 wr)) (fun _ i _ => len0 - (intOf i).toNat)
      case atStart => exact ⟨0, _, rfl, by omega, rfl, H0, Lib.hid (Below.refl _ _)⟩
      case round =>
        clear H0 E3
        obtain ⟨k, vv, rfl, hk, rfl, HO, HB⟩ := hrel
        have hsz := HB.out.size
        by_cases hlt : k < len0
        · have hn2 : Below wr.heap.size wr (wr.alloc (.cells #[.int .i64 (k : Int)] 3)) := (Below.refl _ _).alloc (Nat.le_refl _) _
          have HO2 := Lib.hid (HO.out.below hn2)
          have HB2 := Lib.hid (HB.out.trans (hn2.mono hsz))
          have hz2 : w5.heap.size ≤ (wr.alloc (.cells #[.int .i64 (k : Int)] 3)).heap.size := by simp; omega
          have HL : Hid ((nsq k).length = k) := Lib.hid (nsq_len k)
          have HLt : Hid (∀ q, vv.ownBlock = some q → w5.heap.size ≤ q) := Lib.hid (fun q e => (own_ltI HO.out q e).1)
          clear hn2
          go_wp2_with ((at_builtin; refine wpList_app1 rfl _ _ rfl w5.heap.size _ (nsq k) rfl ⟨wr.heap.size, 0, none⟩ 1 rfl (k : Int) HO2.out (by go_simp) rfl (by rw [HL.out]; omega) hz2 ?_))
          intro v2 W3 hr2 hg2 ho2
          replace hr2 : OI W3 w5.heap.size v2 (nsq (k + 1)) := by rw [nsq_succ]; unfold OI; simpa using hr2
          have HO3 := Lib.hid hr2
          have HB3 := Lib.hid (HB2.out.grown hg2 hz2 HLt.out)
          clear hr2 hg2 ho2 HO2 HB2 HO HB
          go_wp2_with fail
          go_roundw
          case rel => exact ⟨k + 1, _, rfl, by omega, by go_num, HO3, HB3⟩
          case measure => simp [intOf]; omega
        · obtain rfl : k = len0 := by omega
          have F1 := Lib.hid (CO.out wr (HM5.out.below HB.out))
          have hv9 := view_of_own HO.out
          obtain ⟨a9, cap9, rfl, _⟩ := hv9
          have HV9 := Lib.hid (view_of_own HO.out)
          rw [nsq_len] at HV9
          rw [nsq_len]
          have HBe := Lib.hid (trans3 HBH5.out HB.out)
          clear HO HB
          go_wp2_with (first | (go_at_call 10; (with_reducible refine F1.out.mono ?_); rintro e w7 ⟨v7, rfl, HV7, HB7⟩))
          obtain ⟨a7, c7, rfl, _⟩ := HV7.form
          rw [← HLN.out] at HV7
          rw [← HLN.out]
          have G1 := Lib.hid (order_of a7 a9 k c7 k cap9 z0 (nsq k) true w7 HV7 (HV9.out.below HB7) hn (orN_all HVa.out k k (Nat.le_refl _)))
          have HBf := Lib.hid (trans3 HBe.out HB7)
          clear F1 HV7 HB7 HV9 HBe
          go_wp2_with (first | (go_at_call 19; (with_reducible refine G1.out.mono ?_); rintro e w8 ⟨rfl, HB8⟩))
          go_ret
          exact ⟨rfl, trans3 HBf.out HB8⟩
end Go.Proofs.Ytciojgkgfhpaaaa.reachOrders
