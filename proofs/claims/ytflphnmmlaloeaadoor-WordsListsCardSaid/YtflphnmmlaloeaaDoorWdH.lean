/- A list that is written, read, as the document has it (layer 5). -/
import Derived.Test.YtflphnmmlaloeaaDoorWdG
namespace Go.Proofs.YtflphnmmlaloeaaDoor.wd
open Go.ChangeShapes Go.WideShapes Go.ChangeAt Go.RowKit
open Go.Proofs.YtflphnmmlaloeaaDoor.st
set_option linter.unusedVariables false
set_option linter.unusedSimpArgs false
set_option maxRecDepth 20000 in
set_option maxHeartbeats 1600000 in
theorem rnums_v (l : List UInt8) (w : World) (hl : l.length ≤ 10000) : Calls Tryd.prog 20 #[.string ⟨l.toArray⟩] w fun e w' => NP (numsV l) w e w' := by
  have hfs := str_size l
  obtain ⟨R, hR⟩ : ∃ R, numsV l = R := ⟨_, rfl⟩
  rw [hR]
  unfold numsV at hR
  by_cases h45 : l = [45]
  · rw [if_pos h45] at hR
    subst hR
    subst h45
    clear hfs
    go_enter Tryd.func20, Tryd.ntmps20
    go_wp2_with fail
    go_ret2
    exact ⟨⟨_, rfl, View.nil _⟩, Below.refl _ _⟩
  · rw [if_neg h45] at hR
    have h45b : (l == [45]) = false := by simpa using h45
    have HF0 : Hid (nmF [] (if 0 ≤ l.length then spW [] (l.drop 0) else []) = R) := Lib.hid (by rw [if_pos (Nat.zero_le _), List.drop_zero, spW_nil]; exact hR)
    have HO0 : Hid (w.ownsRow w.heap.size 3 1 (.slice none 0 0) ([] : List Int).length (([] : List Int).map (Value.int .i64))) := Lib.hid (World.ownsRow_nil _ _ _ _)
    have HB0 := Lib.hid (Below.refl w.heap.size w)
    have HA0 : Hid (([] : List Int).length ≤ 0) := Lib.hid (Nat.le_refl _)
    have HW0 : Hid (([] : List UInt8).length ≤ 0) := Lib.hid (Nat.le_refl _)
    clear h45 hR
    go_enter Tryd.func20, Tryd.ntmps20
    go_wp2_with fail
    go_loopw [4, 5, 6] (fun lv sv iv wr => ∃ (k : Nat) (acc : List Int) (word : List UInt8), iv = .int .i64 (k : Int) ∧ sv = .string ⟨word.toArray⟩ ∧ k ≤ l.length + 1 ∧ Hid (acc.length ≤ k) ∧ Hid (word.length ≤ k) ∧ Hid (nmF acc (if k ≤ l.length then spW word (l.drop k) else []) = R) ∧ Hid (wr.ownsRow w.heap.size 3 1 lv acc.length (acc.map (Value.int .i64))) ∧ Hid (Below w.heap.size w wr)) (fun _ _ iv _ => l.length + 1 - (RowKit.intOf iv).toNat)
    case atStart => exact ⟨0, [], [], rfl, rfl, by omega, HA0, HW0, HF0, HO0, HB0⟩
    case round =>
      clear HF0 HO0 HB0 HA0 HW0
      obtain ⟨k, acc, word, rfl, rfl, hk, HA, HW, HF, HO, HB⟩ := hrel
      obtain ⟨la, lc, rfl⟩ := own_form HO.out
      by_cases hle : k ≤ l.length
      · have hlei : (k : Int) ≤ (l.length : Int) := by omega
        have hled : decide ((k : Int) ≤ (l.length : Int)) = true := decide_eq_true hlei
        have hf := HF.out
        rw [if_pos hle] at hf
        have hww := HW.out
        by_cases hlt : k < l.length
        · have hki : (k : Int) < (l.length : Int) := by omega
          have hkd : decide ((k : Int) < (l.length : Int)) = true := decide_eq_true hki
          have hd : l.drop k = l.getD k 0 :: l.drop (k + 1) := drop_at l 0 k hlt
          have hat : (⟨l.toArray⟩ : ByteArray)[k]'(by rw [hfs]; exact hlt) = l.getD k 0 := str_at l k _
          have hcut := str_cut l k hlt
          obtain ⟨c, hc⟩ : ∃ c, l.getD k 0 = c := ⟨_, rfl⟩
          rw [hc] at hd hat hcut
          rw [hd] at hf
          obtain ⟨cn, hcn⟩ : ∃ n, c.toNat = n := ⟨_, rfl⟩
          have hle1 : k + 1 ≤ l.length := by omega
          by_cases h44 : c = 44
          · have hcnb : ((cn : Int) != 44) = false := by
              have : cn = 44 := by rw [← hcn, h44]; rfl
              rw [bne, beq_iff_eq.2 (by omega)]; rfl
            subst h44
            rw [spW_cut, nmF] at hf
            have CN := fun w => rnum_v word w (by omega)
            obtain ⟨xv, xb, hxv⟩ : ∃ a b, numV word = (a, b) := ⟨_, _, rfl⟩
            rw [hxv] at hf CN
            have CNH := Lib.hid CN
            clear CN hxv HF hd hcut
            cases xb with
            | false =>
              simp only [Bool.false_eq_true, if_false] at hf
              subst hf
              go_wp2_with fail
              refine (CNH.out _).mono ?_
              rintro e w5 ⟨rfl, hb5⟩
              have HB5 := Lib.hid (tr3 HB.out hb5)
              clear hb5 CNH
              go_wp2_with fail
              go_ret2
              exact ⟨rfl, HB5.out⟩
            | true =>
              simp only [if_true] at hf
              have HFN : Hid (nmF (acc ++ [xv]) (if k + 1 ≤ l.length then spW [] (l.drop (k + 1)) else []) = R) := Lib.hid (by rw [if_pos hle1]; exact hf)
              clear hf
              go_wp2_with fail
              refine (CNH.out _).mono ?_
              rintro e w5 ⟨rfl, hb5⟩
              have hg6 : Below w5.heap.size w5 (w5.alloc (.cells #[.int .i64 xv] 3)) := (Below.refl _ _).alloc (Nat.le_refl _) _
              have HB6 := Lib.hid (tr3 (tr3 HB.out hb5) hg6)
              have HO6 := Lib.hid (own_below HO.out (tr3 hb5 hg6))
              have hu6 : (w5.alloc (.cells #[.int .i64 xv] 3)).cell? ⟨w5.heap.size, 0, none⟩ = some (.int .i64 xv) := cel (heap_new w5 _ _) 0
              have HU6 := Lib.hid hu6
              have hab : acc.length ≤ 100000 := by have := HA.out; omega
              clear hb5 hg6 hu6 CNH HO HB
              go_wp2_with ((at_builtin; refine wpList_app1 rfl _ _ rfl w.heap.size (.slice la acc.length lc) acc rfl ⟨w5.heap.size, 0, none⟩ 1 rfl xv HO6.out HU6.out rfl hab HB6.out.size ?_))
              intro v7 w7 ho7 hg7 hor7
              have hb7 : Below w.heap.size w w7 := HB6.out.grown hg7 HB6.out.size (fun g e => own_lt HO6.out g e)
              have HO7 := Lib.hid ho7
              have HB7 := Lib.hid hb7
              have HA7 : Hid ((acc ++ [xv]).length ≤ k + 1) := Lib.hid (by rw [List.length_append, List.length_singleton]; have := HA.out; omega)
              obtain ⟨l7, c7, rfl⟩ := own_form ho7
              clear ho7 hg7 hor7 hb7
              go_wp2_with fail
              go_roundw
              case rel => exact ⟨k + 1, acc ++ [xv], [], by go_num, rfl, by omega, HA7, Lib.hid (by simp), HFN, Lib.hid (by simpa using HO7.out), HB7⟩
              case measure => first | (simp [RowKit.intOf]; done) | (simp [RowKit.intOf]; omega)
          · have hcnb : ((cn : Int) != 44) = true := by
              have : cn ≠ 44 := fun h => h44 (UInt8.toNat_inj.1 (by rw [hcn, h]; rfl))
              rw [bne, beq_eq_false_iff_ne.2 (by omega)]; rfl
            rw [spW_more _ _ _ h44] at hf
            have hj := str_join word [c]
            have hsz : ¬ 9223372036854775807 < word.length + 1 := by omega
            have HFN : Hid (nmF acc (if k + 1 ≤ l.length then spW (word ++ [c]) (l.drop (k + 1)) else []) = R) := Lib.hid (by rw [if_pos hle1]; exact hf)
            have HWN : Hid ((word ++ [c]).length ≤ k + 1) := Lib.hid (by rw [List.length_append, List.length_singleton]; omega)
            have HAN : Hid (acc.length ≤ k + 1) := Lib.hid (by have := HA.out; omega)
            obtain ⟨word2, hw2⟩ : ∃ x, word ++ [c] = x := ⟨_, rfl⟩
            rw [hw2] at hj HFN HWN
            have hq0 : (k : Int) ≤ (k : Int) + 1 := by omega
            have hq1 : (k : Int) + 1 ≤ (l.length : Int) := by omega
            have hq2 : ((k : Int) + 1).toNat = k + 1 := by omega
            clear hf HF HW HA hd hw2 h44
            go_wp2_with fail
            go_roundw
            case rel => exact ⟨k + 1, acc, word2, by go_num, rfl, by omega, HAN, HWN, HFN, HO, HB⟩
            case measure => simp [RowKit.intOf]; omega
        · obtain rfl : k = l.length := by omega
          have hki : ¬ (l.length : Int) < (l.length : Int) := by omega
          rw [List.drop_length, spW_end, nmF] at hf
          have CN := fun w => rnum_v word w (by omega)
          obtain ⟨xv, xb, hxv⟩ : ∃ a b, numV word = (a, b) := ⟨_, _, rfl⟩
          rw [hxv] at hf CN
          have CNH := Lib.hid CN
          clear CN hxv HF
          cases xb with
          | false =>
            simp only [Bool.false_eq_true, if_false] at hf
            subst hf
            go_wp2_with fail
            refine (CNH.out _).mono ?_
            rintro e w5 ⟨rfl, hb5⟩
            have HB5 := Lib.hid (tr3 HB.out hb5)
            clear hb5 CNH
            go_wp2_with fail
            go_ret2
            exact ⟨rfl, HB5.out⟩
          | true =>
            simp only [if_true] at hf
            have HFN : Hid (nmF (acc ++ [xv]) (if l.length + 1 ≤ l.length then spW [] (l.drop (l.length + 1)) else []) = R) := Lib.hid (by rw [if_neg (by omega)]; exact hf)
            clear hf
            go_wp2_with fail
            refine (CNH.out _).mono ?_
            rintro e w5 ⟨rfl, hb5⟩
            have hg6 : Below w5.heap.size w5 (w5.alloc (.cells #[.int .i64 xv] 3)) := (Below.refl _ _).alloc (Nat.le_refl _) _
            have HB6 := Lib.hid (tr3 (tr3 HB.out hb5) hg6)
            have HO6 := Lib.hid (own_below HO.out (tr3 hb5 hg6))
            have hu6 : (w5.alloc (.cells #[.int .i64 xv] 3)).cell? ⟨w5.heap.size, 0, none⟩ = some (.int .i64 xv) := cel (heap_new w5 _ _) 0
            have HU6 := Lib.hid hu6
            have hab : acc.length ≤ 100000 := by have := HA.out; omega
            clear hb5 hg6 hu6 CNH HO HB
            go_wp2_with ((at_builtin; refine wpList_app1 rfl _ _ rfl w.heap.size (.slice la acc.length lc) acc rfl ⟨w5.heap.size, 0, none⟩ 1 rfl xv HO6.out HU6.out rfl hab HB6.out.size ?_))
            intro v7 w7 ho7 hg7 hor7
            have hb7 : Below w.heap.size w w7 := HB6.out.grown hg7 HB6.out.size (fun g e => own_lt HO6.out g e)
            have HO7 := Lib.hid ho7
            have HB7 := Lib.hid hb7
            have HA7 : Hid ((acc ++ [xv]).length ≤ l.length + 1) := Lib.hid (by rw [List.length_append, List.length_singleton]; have := HA.out; omega)
            obtain ⟨l7, c7, rfl⟩ := own_form ho7
            clear ho7 hg7 hor7 hb7
            go_wp2_with fail
            go_roundw
            case rel => exact ⟨l.length + 1, acc ++ [xv], [], by go_num, rfl, by omega, HA7, Lib.hid (by simp), HFN, Lib.hid (by simpa using HO7.out), HB7⟩
            case measure => first | (simp [RowKit.intOf]; done) | (simp [RowKit.intOf]; omega)
      · obtain rfl : k = l.length + 1 := by omega
        have hlei : ¬ ((l.length + 1 : Nat) : Int) ≤ (l.length : Int) := by omega
        have hled : decide (((l.length + 1 : Nat) : Int) ≤ (l.length : Int)) = false := decide_eq_false hlei
        have hf := HF.out
        rw [if_neg hle, nmF] at hf
        subst hf
        have HV := Lib.hid (view_of_own HO.out)
        clear HF HA HW HO
        go_wp2_with fail
        go_ret2
        exact ⟨⟨_, rfl, HV.out⟩, HB.out⟩
end Go.Proofs.YtflphnmmlaloeaaDoor.wd
