/- Lines of words (layer 5): the walk of the law. -/
import Derived.Test.YtflphnmmlaloeaaDoorWdF
import Derived.Test.YtflphnmmlaloeaaDoorWdN
import Derived.Test.YtflphnmmlaloeaaDoorWdO
import Derived.Test.YtflphnmmlaloeaaDoorReC
namespace Go.Proofs.YtflphnmmlaloeaaDoor.wordsLines
open Go.ChangeShapes Go.WideShapes Go.ChangeAt Go.RowKit
open Go.Proofs.YtflphnmmlaloeaaDoor.st Go.Proofs.YtflphnmmlaloeaaDoor.wd
set_option linter.unusedVariables false
set_option linter.unusedSimpArgs false
theorem tail_len (m : Nat) (sep : UInt8) : ∀ L : List (List UInt8), (∀ l ∈ L, l.length ≤ m) → (Lib.joinTail [sep] L).length ≤ (m + 1) * L.length := by
  intro L
  induction L with
  | nil => intro _; simp [Lib.joinTail]
  | cons x r ih =>
    intro h
    have h1 := h x (by simp)
    have h2 := ih (fun l hl => h l (List.mem_cons_of_mem _ hl))
    have e : Lib.joinTail [sep] (x :: r) = sep :: (x ++ Lib.joinTail [sep] r) := by simp [Lib.joinTail]
    rw [e, List.length_cons, List.length_append, List.length_cons, Nat.mul_add]
    omega
theorem join_len (m : Nat) (sep : UInt8) (L : List (List UInt8)) (h : ∀ l ∈ L, l.length ≤ m) : (Lib.join L [sep]).length ≤ (m + 1) * L.length := by
  cases L with
  | nil => simp [Lib.join_nil]
  | cons x r =>
    have h1 := h x (by simp)
    have h2 := tail_len m sep r (fun l hl => h l (List.mem_cons_of_mem _ hl))
    rw [Lib.join_cons, List.length_append, List.length_cons, Nat.mul_add]
    omega
set_option maxRecDepth 20000 in
set_option maxHeartbeats 1600000 in
theorem walk (a0 : ByteArray) (a1 : Option Addr) (n1 c1 : Nat) (L1 : List (List UInt8)) (w : World) (w0 : a0.size ≤ maxLen) (w1 : wd.SV w (.slice a1 n1 c1) L1) (u1 : ∀ l ∈ L1, l.length ≤ maxLen) (hN : NM w) :
    Calls Tryd.prog 3 #[.string a0, .slice a1 n1 c1] w fun e w' => e = .returned (.bool true) ∧ Below w.heap.size w w' := by
  obtain ⟨s, hs⟩ : ∃ s : List UInt8, a0 = ⟨s.toArray⟩ := ⟨a0.data.toList, by simp⟩
  subst hs
  have hfs := str_size s
  rw [hfs] at w0
  unfold maxLen at w0
  have CW := Lib.hid works_v
  have HN := Lib.hid hN
  have HV := Lib.hid w1
  obtain ⟨hlen, hcap1, hcm1⟩ := RV.len w1
  unfold maxLen at hcm1
  have hn63 : n1 ≤ 9223372036854775807 := by omega
  have HX := Lib.hid hlen
  have HU := Lib.hid u1
  clear w1 hN hlen u1
  by_cases hbig : 3000 < s.length
  · have hbi : (3000 : Int) < s.length := by omega
    have hbd : decide ((3000 : Int) < s.length) = true := decide_eq_true hbi
    go_enter Tryd.func3, Tryd.ntmps3
    go_wp2_with fail
    refine (CW.out _ HN.out).mono ?_
    rintro e w1 ⟨rfl, hb1⟩
    go_wp2_with fail
    go_ret
    exact ⟨rfl, hb1⟩
  · have hbi : ¬ (3000 : Int) < s.length := by omega
    have hbd : decide ((3000 : Int) < s.length) = false := decide_eq_false hbi
    by_cases hmany : 200 < n1
    · have hmi : (200 : Int) < (n1 : Int) := by omega
      have hmd : decide ((200 : Int) < (n1 : Int)) = true := decide_eq_true hmi
      go_enter Tryd.func3, Tryd.ntmps3
      go_wp2_with fail
      refine (CW.out _ HN.out).mono ?_
      rintro e w1 ⟨rfl, hb1⟩
      go_wp2_with fail
      go_ret
      exact ⟨rfl, hb1⟩
    · have hmi : ¬ (200 : Int) < (n1 : Int) := by omega
      have hmd : decide ((200 : Int) < (n1 : Int)) = false := decide_eq_false hmi
      have CF := Lib.hid (fun w => wfields_v s w (by omega))
      have CG := Lib.hid (fun w => rfields_v s w (by omega))
      have CL := Lib.hid (fun w hN => wlines_v s w (by omega) hN)
      have CR := Lib.hid (fun w => rlines_v s w (by omega))
      have HM : Hid (s.length ≤ 3000) := Lib.hid (by omega)
      have HP0 : Hid (∀ j, j < 0 → (L1.getD j []).length ≤ 200) := Lib.hid (fun j hj => absurd hj (by omega))
      go_enter Tryd.func3, Tryd.ntmps3
      go_wp2_with fail
      refine (CW.out _ HN.out).mono ?_
      rintro e w1 ⟨rfl, hb1⟩
      have HB1 := Lib.hid hb1
      clear hb1 CW
      go_wp2_with fail
      go_loopw [5] (fun i wr => ∃ k : Nat, i = .int .i64 (k : Int) ∧ k ≤ n1 ∧ Hid (∀ j, j < k → (L1.getD j []).length ≤ 200) ∧ Hid (Below w.heap.size w wr)) (fun i _ => n1 - (RowKit.intOf i).toNat)
      case atStart => exact ⟨0, rfl, by omega, HP0, HB1⟩
      case round =>
        clear HP0 HB1
        obtain ⟨k, rfl, hk, HP, HB⟩ := hrel
        by_cases hlt : k < n1
        · have hki : (k : Int) < (n1 : Int) := by omega
          have hkd : decide ((k : Int) < (n1 : Int)) = true := decide_eq_true hki
          obtain ⟨b, off, rfl, hbl, hxc⟩ := SV.at (HV.out.below HB.out) k hlt
          have hmm := HU.out (L1.getD k []) (by
            have := HX.out
            rw [List.getD_eq_getElem?_getD, List.getElem?_eq_getElem (by omega)]; exact List.getElem_mem _)
          unfold maxLen at hmm
          obtain ⟨E, hE⟩ : ∃ E, L1.getD k [] = E := ⟨_, rfl⟩
          rw [hE] at hxc hmm
          have hes := str_size E
          by_cases h2 : 200 < E.length
          · have h2i : (200 : Int) < (E.length : Int) := by omega
            have h2d : decide ((200 : Int) < (E.length : Int)) = true := decide_eq_true h2i
            go_wp2_with fail
            go_ret
            exact ⟨rfl, HB.out⟩
          · have h2i : ¬ (200 : Int) < (E.length : Int) := by omega
            have h2d : decide ((200 : Int) < (E.length : Int)) = false := decide_eq_false h2i
            have HPN : Hid (∀ j, j < k + 1 → (L1.getD j []).length ≤ 200) := Lib.hid (fun j hj => by
              by_cases hjk : j = k
              · rw [hjk, hE]; omega
              · exact HP.out j (by omega))
            clear HP hE hbl
            go_wp2_with fail
            go_roundw
            case rel => exact ⟨k + 1, by go_num, by omega, HPN, HB⟩
            case measure => simp [RowKit.intOf]; omega
        · obtain rfl : k = n1 := by omega
          have hki : ¬ (k : Int) < (k : Int) := by omega
          have hkd : decide ((k : Int) < (k : Int)) = false := decide_eq_false hki
          have hall : ∀ l ∈ L1, l.length ≤ 200 := by
            intro l hl
            obtain ⟨j, hj⟩ := List.getElem?_of_mem hl
            have hjl := (List.getElem?_eq_some_iff.1 hj).1
            have := HP.out j (by have := HX.out; omega)
            rw [List.getD_eq_getElem?_getD, hj] at this
            exact this
          have hpre : ∀ j, j ≤ L1.length → (Lib.join (L1.take j) [32]).length ≤ 1000000000 := by
            intro j hj
            have := join_len 200 32 (L1.take j) (fun l hl => hall l (List.mem_of_mem_take hl))
            rw [List.length_take] at this
            have := HX.out
            omega
          have hful := hpre L1.length (Nat.le_refl _)
          rw [List.take_length] at hful
          have hL200 : L1.length ≤ 200 := by have := HX.out; omega
          have CJ := Lib.hid (fun v w h => wjoin_v v L1 w h (by omega) hful)
          have CK := Lib.hid (fun v w h => rjoin_v v L1 w h (by omega) hpre)
          obtain ⟨T, hT⟩ : ∃ T, Lib.join L1 [32] = T := ⟨_, rfl⟩
          rw [hT] at CJ CK
          have hTT : (T == T) = true := by simp
          have HL2 := Lib.hid hL200
          clear hall hpre hful hT HP hL200
          go_wp2_with fail
          refine (CF.out _).mono ?_
          rintro e w2 ⟨v2, rfl, hv2, hb2⟩
          have HV2 := Lib.hid hv2
          have HB2 := Lib.hid (tr3 HB.out hb2)
          clear hb2 CF hv2 HB
          go_wp2_with fail
          refine (CG.out _).mono ?_
          rintro e w3 ⟨v3, rfl, hv3, hb3⟩
          have HB3 := Lib.hid (tr3 HB2.out hb3)
          have CI := Lib.hid (strings_v v2 v3 (fldV s) w3 (HV2.out.below hb3) hv3)
          clear hb3 CG hv3 HB2 HV2
          go_wp2_with fail
          refine CI.out.mono ?_
          rintro e w4 ⟨rfl, hb4⟩
          have HB4 := Lib.hid (tr3 HB3.out hb4)
          clear hb4 CI HB3
          go_wp2_with fail
          refine (CL.out _ (HN.out.below HB4.out)).mono ?_
          rintro e w5 ⟨v5, rfl, hv5, hb5⟩
          have HV5 := Lib.hid hv5
          have HB5 := Lib.hid (tr3 HB4.out hb5)
          clear hb5 CL hv5 HB4
          go_wp2_with fail
          refine (CR.out _).mono ?_
          rintro e w6 ⟨v6, rfl, hv6, hb6⟩
          have HB6 := Lib.hid (tr3 HB5.out hb6)
          have CI := Lib.hid (strings_v v5 v6 (linV s) w6 (HV5.out.below hb6) hv6)
          clear hb6 CR hv6 HB5 HV5
          go_wp2_with fail
          refine CI.out.mono ?_
          rintro e w7 ⟨rfl, hb7⟩
          have HB7 := Lib.hid (tr3 HB6.out hb7)
          clear hb7 CI HB6
          obtain ⟨w8, hw8⟩ : ∃ w8, w7.alloc (.cells #[] 9) = w8 := ⟨_, rfl⟩
          have h78 : Below w7.heap.size w7 w8 := by rw [← hw8]; exact (Below.refl _ _).alloc (Nat.le_refl _) _
          have he8 : w8.heap[w7.heap.size]? = some (.cells #[] 9 (0, 0)) := by rw [← hw8]; exact heap_new _ _ _
          have HW8 := Lib.hid hw8
          have HE8 := Lib.hid he8
          have H78 := Lib.hid h78
          have HX8 := Lib.hid (HV.out.below (tr3 HB7.out h78))
          have hxl : L1.length ≤ 1000000 := by have := HL2.out; omega
          clear h78 he8 hw8
          go_wp2_with ((at_builtin; rw [HW8.out]; refine wpList_copyRw (by kernel_rfl) _ _ 22 9 _ 16 rfl Tryd.underlying22 infoS rfl (by decide) recS w7.heap.size w7.heap.size rfl HE8.out (Nat.le_refl _) L1 HX8.out hxl ?_))
          intro v9 w9 ho9 hb9
          have hb79 := H78.out.trans hb9
          have HB9 := Lib.hid (tr3 HB7.out hb79)
          have CJ9 := Lib.hid (CJ.out v9 w9 (OR.rv recS ho9))
          clear hb9 hb79 ho9 H78 HW8 HE8 HX8 CJ
          go_wp2_with fail
          refine CJ9.out.mono ?_
          rintro e w10 ⟨rfl, hb10⟩
          have HB10 := Lib.hid (tr3 HB9.out hb10)
          have CK10 := Lib.hid (CK.out _ w10 (HV.out.below HB10.out))
          clear hb10 CJ9 CK
          go_wp2_with fail
          refine CK10.out.mono ?_
          rintro e w11 ⟨rfl, hb11⟩
          have HB11 := Lib.hid (tr3 HB10.out hb11)
          clear hb11 CK10
          go_wp2_with fail
          go_ret
          exact ⟨by first | rfl | simp, HB11.out⟩
end Go.Proofs.YtflphnmmlaloeaaDoor.wordsLines
