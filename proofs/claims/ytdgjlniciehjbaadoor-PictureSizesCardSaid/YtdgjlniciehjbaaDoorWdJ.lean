/- Words and lines, as the document has them (layer 5). -/
import Derived.Test.YtdgjlniciehjbaaDoorWdI
import Derived.Test.YtdgjlniciehjbaaDoorWdD
namespace Go.Proofs.YtdgjlniciehjbaaDoor.wd
open Go.ChangeShapes Go.WideShapes Go.ChangeAt Go.RowKit
open Go.Proofs.YtdgjlniciehjbaaDoor.st
set_option linter.unusedVariables false
set_option linter.unusedSimpArgs false
theorem one_str (w : World) (word : List UInt8) : ∀ j u, (enS word)[j]? = some u → (w.alloc (.cells #[.string ⟨word.toArray⟩] 9)).cell? ((⟨w.heap.size, 0, none⟩ : Addr).add j) = some u := by
  intro j u hu
  match j, hu with
  | 0, hu =>
    simp [enS] at hu
    subst hu
    have := cel (heap_new w #[.string ⟨word.toArray⟩] 9) 0
    simp [Addr.add, this]
theorem ne_true {l : List UInt8} (h : l.isEmpty = false) : ne l = true := by unfold ne; rw [h]; rfl
theorem ne_false {l : List UInt8} (h : l.isEmpty = true) : ne l = false := by unfold ne; rw [h]; rfl
set_option maxRecDepth 20000 in
set_option maxHeartbeats 1600000 in
theorem rfields_v (l : List UInt8) (w : World) (hl : l.length ≤ 100000) : Calls Tryd.prog 18 #[.string ⟨l.toArray⟩] w fun e w' => ∃ v, e = .returned v ∧ SV w' v (fldV l) ∧ Below w.heap.size w w' := by
  have hfs := str_size l
  obtain ⟨R, hR⟩ : ∃ R, fldV l = R := ⟨_, rfl⟩
  rw [hR]
  have HF0 : Hid (([] : List (List UInt8)) ++ (if 0 ≤ l.length then fldX [] (l.drop 0) else []) = R) := Lib.hid (by rw [if_pos (Nat.zero_le _), List.drop_zero, fldX_nil]; exact hR)
  have HO0 : Hid (OR 1 enS w w.heap.size 9 (.slice none 0 0) []) := Lib.hid (OR.nil _ _ _)
  have HB0 := Lib.hid (Below.refl w.heap.size w)
  have HA0 : Hid (([] : List (List UInt8)).length ≤ 0) := Lib.hid (Nat.le_refl _)
  have HW0 : Hid (([] : List UInt8).length ≤ 0) := Lib.hid (Nat.le_refl _)
  clear hR
  go_enter Tryd.func18, Tryd.ntmps18
  go_wp2_with fail
  go_loopw [3, 4, 5] (fun lv sv iv wr => ∃ (k : Nat) (acc : List (List UInt8)) (word : List UInt8), iv = .int .i64 (k : Int) ∧ sv = .string ⟨word.toArray⟩ ∧ k ≤ l.length + 1 ∧ Hid (acc.length ≤ k) ∧ Hid (word.length ≤ k) ∧ Hid (acc ++ (if k ≤ l.length then fldX word (l.drop k) else []) = R) ∧ Hid (OR 1 enS wr w.heap.size 9 lv acc) ∧ Hid (Below w.heap.size w wr)) (fun _ _ iv _ => l.length + 1 - (RowKit.intOf iv).toNat)
  case atStart => exact ⟨0, [], [], rfl, rfl, by omega, HA0, HW0, HF0, HO0, HB0⟩
  case round =>
    clear HF0 HO0 HB0 HA0 HW0
    obtain ⟨k, acc, word, rfl, rfl, hk, HA, HW, HF, HO, HB⟩ := hrel
    obtain ⟨la, lc, rfl⟩ := HO.out.form
    by_cases hle : k ≤ l.length
    · have hlei : (k : Int) ≤ (l.length : Int) := by omega
      have hled : decide ((k : Int) ≤ (l.length : Int)) = true := decide_eq_true hlei
      have hf := HF.out
      rw [if_pos hle] at hf
      have hww := HW.out
      by_cases hlt : k < l.length
      · have hki : (k : Int) < (l.length : Int) := by omega
        have hkd : decide ((k : Int) < (l.length : Int)) = true := decide_eq_true hki
        have hd : l.drop k = l.getD k 0 :: l.drop (k + 1) := drop_at l 0 k hlt
        have hat : (⟨l.toArray⟩ : ByteArray)[k]'(by rw [hfs]; exact hlt) = l.getD k 0 := str_at l k _
        have hcut := str_cut l k hlt
        obtain ⟨c, hc⟩ : ∃ c, l.getD k 0 = c := ⟨_, rfl⟩
        rw [hc] at hd hat hcut
        rw [hd] at hf
        obtain ⟨cn, hcn⟩ : ∃ n, c.toNat = n := ⟨_, rfl⟩
        have hle1 : k + 1 ≤ l.length := by omega
        by_cases h32 : c = 32
        · have hcnb : ((cn : Int) != 32) = false := by
            have : cn = 32 := by rw [← hcn, h32]; rfl
            rw [bne, beq_iff_eq.2 (by omega)]; rfl
          subst h32
          rw [fldX_cut] at hf
          clear hd hcut
          cases hem : word.isEmpty with
          | true =>
            rw [ne_false hem] at hf
            have hf' : acc ++ fldX [] (l.drop (k + 1)) = R := by simpa using hf
            have HFN : Hid (acc ++ (if k + 1 ≤ l.length then fldX [] (l.drop (k + 1)) else []) = R) := Lib.hid (by rw [if_pos hle1]; exact hf')
            have HAN : Hid (acc.length ≤ k + 1) := Lib.hid (by have := HA.out; omega)
            clear hf hf' HF
            go_wp2_with fail
            go_roundw
            case rel => exact ⟨k + 1, acc, [], by go_num, rfl, by omega, HAN, Lib.hid (by simp), HFN, HO, HB⟩
            case measure => first | (simp [RowKit.intOf]; done) | (simp [RowKit.intOf]; omega)
          | false =>
            rw [ne_true hem, if_pos rfl] at hf
            have hf' : (acc ++ [word]) ++ fldX [] (l.drop (k + 1)) = R := by simpa using hf
            have HFN : Hid ((acc ++ [word]) ++ (if k + 1 ≤ l.length then fldX [] (l.drop (k + 1)) else []) = R) := Lib.hid (by rw [if_pos hle1]; exact hf')
            have HAN : Hid ((acc ++ [word]).length ≤ k + 1) := Lib.hid (by rw [List.length_append, List.length_singleton]; have := HA.out; omega)
            clear hf hf' HF
            have hg6 : Below wr.heap.size wr (wr.alloc (.cells #[.string ⟨word.toArray⟩] 9)) := (Below.refl _ _).alloc (Nat.le_refl _) _
            have HB6 := Lib.hid (tr3 HB.out hg6)
            have HO6 := Lib.hid (HO.out.below hg6)
            have hu6 : ∀ j u, (enS word)[j]? = some u → (wr.alloc (.cells #[.string ⟨word.toArray⟩] 9)).cell? ((⟨wr.heap.size, 0, none⟩ : Addr).add j) = some u := one_str wr word
            have HU6 := Lib.hid hu6
            have hab : acc.length ≤ 1000000 := by have := HA.out; omega
            clear hg6 hu6 HO HB
            go_wp2_with ((at_builtin; refine wpList_appR rfl _ _ 34 9 _ 16 rfl Tryd.underlying34 infoS rfl (by decide) recS w.heap.size (.slice la acc.length lc) acc rfl ⟨wr.heap.size, 0, none⟩ 1 rfl word HO6.out HU6.out hab HB6.out.size ?_))
            intro v7 w7 ho7 hg7 hor7
            have hb7 : Below w.heap.size w w7 := HB6.out.grown hg7 HB6.out.size (fun g e => (HO6.out.lt g e).1)
            have HO7 := Lib.hid ho7
            have HB7 := Lib.hid hb7
            obtain ⟨l7, c7, rfl⟩ := ho7.form
            clear ho7 hg7 hor7 hb7
            go_wp2_with fail
            go_roundw
            case rel => exact ⟨k + 1, acc ++ [word], [], by go_num, rfl, by omega, HAN, Lib.hid (by simp), HFN, Lib.hid (by simpa using HO7.out), HB7⟩
            case measure => first | (simp [RowKit.intOf]; done) | (simp [RowKit.intOf]; omega)
        · have hcnb : ((cn : Int) != 32) = true := by
            have : cn ≠ 32 := fun h => h32 (UInt8.toNat_inj.1 (by rw [hcn, h]; rfl))
            rw [bne, beq_eq_false_iff_ne.2 (by omega)]; rfl
          have hmore := fldX_more word [c] (l.drop (k + 1)) (by intro x hx; rw [List.mem_singleton] at hx; rw [hx]; exact h32)
          rw [show [c] ++ l.drop (k + 1) = c :: l.drop (k + 1) from rfl] at hmore
          rw [hmore] at hf
          have hj := str_join word [c]
          have hsz : ¬ 9223372036854775807 < word.length + 1 := by omega
          have HFN : Hid (acc ++ (if k + 1 ≤ l.length then fldX (word ++ [c]) (l.drop (k + 1)) else []) = R) := Lib.hid (by rw [if_pos hle1]; exact hf)
          have HWN : Hid ((word ++ [c]).length ≤ k + 1) := Lib.hid (by rw [List.length_append, List.length_singleton]; omega)
          have HAN : Hid (acc.length ≤ k + 1) := Lib.hid (by have := HA.out; omega)
          obtain ⟨word2, hw2⟩ : ∃ x, word ++ [c] = x := ⟨_, rfl⟩
          rw [hw2] at hj HFN HWN
          have hq0 : (k : Int) ≤ (k : Int) + 1 := by omega
          have hq1 : (k : Int) + 1 ≤ (l.length : Int) := by omega
          have hq2 : ((k : Int) + 1).toNat = k + 1 := by omega
          clear hf HF HW HA hd hw2 h32 hmore
          go_wp2_with fail
          go_roundw
          case rel => exact ⟨k + 1, acc, word2, by go_num, rfl, by omega, HAN, HWN, HFN, HO, HB⟩
          case measure => simp [RowKit.intOf]; omega
      · obtain rfl : k = l.length := by omega
        have hki : ¬ (l.length : Int) < (l.length : Int) := by omega
        rw [List.drop_length, fldX_end] at hf
        cases hem : word.isEmpty with
        | true =>
          rw [ne_false hem] at hf
          have hf' : acc ++ ([] : List (List UInt8)) = R := by simpa using hf
          have HFN : Hid (acc ++ (if l.length + 1 ≤ l.length then fldX [] (l.drop (l.length + 1)) else []) = R) := Lib.hid (by rw [if_neg (by omega)]; exact hf')
          have HAN : Hid (acc.length ≤ l.length + 1) := Lib.hid (by have := HA.out; omega)
          clear hf hf' HF
          go_wp2_with fail
          go_roundw
          case rel => exact ⟨l.length + 1, acc, [], by go_num, rfl, by omega, HAN, Lib.hid (by simp), HFN, HO, HB⟩
          case measure => first | (simp [RowKit.intOf]; done) | (simp [RowKit.intOf]; omega)
        | false =>
          rw [ne_true hem, if_pos rfl] at hf
          have hf' : (acc ++ [word]) ++ ([] : List (List UInt8)) = R := by simpa using hf
          have HFN : Hid ((acc ++ [word]) ++ (if l.length + 1 ≤ l.length then fldX [] (l.drop (l.length + 1)) else []) = R) := Lib.hid (by rw [if_neg (by omega)]; exact hf')
          have HAN : Hid ((acc ++ [word]).length ≤ l.length + 1) := Lib.hid (by rw [List.length_append, List.length_singleton]; have := HA.out; omega)
          clear hf hf' HF
          have hg6 : Below wr.heap.size wr (wr.alloc (.cells #[.string ⟨word.toArray⟩] 9)) := (Below.refl _ _).alloc (Nat.le_refl _) _
          have HB6 := Lib.hid (tr3 HB.out hg6)
          have HO6 := Lib.hid (HO.out.below hg6)
          have hu6 : ∀ j u, (enS word)[j]? = some u → (wr.alloc (.cells #[.string ⟨word.toArray⟩] 9)).cell? ((⟨wr.heap.size, 0, none⟩ : Addr).add j) = some u := one_str wr word
          have HU6 := Lib.hid hu6
          have hab : acc.length ≤ 1000000 := by have := HA.out; omega
          clear hg6 hu6 HO HB
          go_wp2_with ((at_builtin; refine wpList_appR rfl _ _ 34 9 _ 16 rfl Tryd.underlying34 infoS rfl (by decide) recS w.heap.size (.slice la acc.length lc) acc rfl ⟨wr.heap.size, 0, none⟩ 1 rfl word HO6.out HU6.out hab HB6.out.size ?_))
          intro v7 w7 ho7 hg7 hor7
          have hb7 : Below w.heap.size w w7 := HB6.out.grown hg7 HB6.out.size (fun g e => (HO6.out.lt g e).1)
          have HO7 := Lib.hid ho7
          have HB7 := Lib.hid hb7
          obtain ⟨l7, c7, rfl⟩ := ho7.form
          clear ho7 hg7 hor7 hb7
          go_wp2_with fail
          go_roundw
          case rel => exact ⟨l.length + 1, acc ++ [word], [], by go_num, rfl, by omega, HAN, Lib.hid (by simp), HFN, Lib.hid (by simpa using HO7.out), HB7⟩
          case measure => first | (simp [RowKit.intOf]; done) | (simp [RowKit.intOf]; omega)
    · obtain rfl : k = l.length + 1 := by omega
      have hlei : ¬ ((l.length + 1 : Nat) : Int) ≤ (l.length : Int) := by omega
      have hled : decide (((l.length + 1 : Nat) : Int) ≤ (l.length : Int)) = false := decide_eq_false hlei
      have hf := HF.out
      rw [if_neg hle, List.append_nil] at hf
      subst hf
      have HV := Lib.hid (OR.rv recS HO.out)
      clear HF HA HW HO
      go_wp2_with fail
      go_ret
      exact ⟨_, rfl, HV.out, HB.out⟩
end Go.Proofs.YtdgjlniciehjbaaDoor.wd
