/- Lines and a line of words, as the document has them; the program's Lines (layer 5). -/
import Derived.Test.YtdgjlniciehjbaaDoorWdJ
namespace Go.Proofs.YtdgjlniciehjbaaDoor.wd
open Go.ChangeShapes Go.WideShapes Go.ChangeAt Go.RowKit
open Go.Proofs.YtdgjlniciehjbaaDoor.st
set_option linter.unusedVariables false
set_option linter.unusedSimpArgs false
set_option maxRecDepth 20000 in
set_option maxHeartbeats 1600000 in
theorem rlines_v (l : List UInt8) (w : World) (hl : l.length ≤ 100000) : Calls Tryd.prog 17 #[.string ⟨l.toArray⟩] w fun e w' => ∃ v, e = .returned v ∧ SV w' v (linV l) ∧ Below w.heap.size w w' := by
  have hfs := str_size l
  obtain ⟨R, hR⟩ : ∃ R, linV l = R := ⟨_, rfl⟩
  rw [hR]
  have HF0 : Hid (([] : List (List UInt8)) ++ linX [] (l.drop 0) = R) := Lib.hid (by rw [List.drop_zero]; exact hR)
  have HO0 : Hid (OR 1 enS w w.heap.size 9 (.slice none 0 0) []) := Lib.hid (OR.nil _ _ _)
  have HB0 := Lib.hid (Below.refl w.heap.size w)
  have HA0 : Hid (([] : List (List UInt8)).length ≤ 0) := Lib.hid (Nat.le_refl _)
  have HW0 : Hid (([] : List UInt8).length ≤ 0) := Lib.hid (Nat.le_refl _)
  clear hR
  go_enter Tryd.func17, Tryd.ntmps17
  go_wp2_with fail
  go_loopw [3, 4, 5] (fun lv sv iv wr => ∃ (k : Nat) (acc : List (List UInt8)) (word : List UInt8), iv = .int .i64 (k : Int) ∧ sv = .string ⟨word.toArray⟩ ∧ k ≤ l.length ∧ Hid (acc.length ≤ k) ∧ Hid (word.length ≤ k) ∧ Hid (acc ++ linX word (l.drop k) = R) ∧ Hid (OR 1 enS wr w.heap.size 9 lv acc) ∧ Hid (Below w.heap.size w wr)) (fun _ _ iv _ => l.length - (RowKit.intOf iv).toNat)
  case atStart => exact ⟨0, [], [], rfl, rfl, by omega, HA0, HW0, HF0, HO0, HB0⟩
  case round =>
    clear HF0 HO0 HB0 HA0 HW0
    obtain ⟨k, acc, word, rfl, rfl, hk, HA, HW, HF, HO, HB⟩ := hrel
    obtain ⟨la, lc, rfl⟩ := HO.out.form
    have hf := HF.out
    have hww := HW.out
    by_cases hlt : k < l.length
    · have hki : (k : Int) < (l.length : Int) := by omega
      have hkd : decide ((k : Int) < (l.length : Int)) = true := decide_eq_true hki
      have hd : l.drop k = l.getD k 0 :: l.drop (k + 1) := drop_at l 0 k hlt
      have hat : (⟨l.toArray⟩ : ByteArray)[k]'(by rw [hfs]; exact hlt) = l.getD k 0 := str_at l k _
      have hcut := str_cut l k hlt
      obtain ⟨c, hc⟩ : ∃ c, l.getD k 0 = c := ⟨_, rfl⟩
      rw [hc] at hd hat hcut
      rw [hd] at hf
      obtain ⟨cn, hcn⟩ : ∃ n, c.toNat = n := ⟨_, rfl⟩
      by_cases h10 : c = 10
      · have hcnb : ((cn : Int) == 10) = true := by
          have : cn = 10 := by rw [← hcn, h10]; rfl
          rw [beq_iff_eq.2 (by omega)]
        subst h10
        rw [linX_cut] at hf
        have hf' : (acc ++ [word]) ++ linX [] (l.drop (k + 1)) = R := by simpa using hf
        have HFN : Hid ((acc ++ [word]) ++ linX [] (l.drop (k + 1)) = R) := Lib.hid hf'
        have HAN : Hid ((acc ++ [word]).length ≤ k + 1) := Lib.hid (by rw [List.length_append, List.length_singleton]; have := HA.out; omega)
        clear hf hf' HF hd hcut
        have hg6 : Below wr.heap.size wr (wr.alloc (.cells #[.string ⟨word.toArray⟩] 9)) := (Below.refl _ _).alloc (Nat.le_refl _) _
        have HB6 := Lib.hid (tr3 HB.out hg6)
        have HO6 := Lib.hid (HO.out.below hg6)
        have hu6 : ∀ j u, (enS word)[j]? = some u → (wr.alloc (.cells #[.string ⟨word.toArray⟩] 9)).cell? ((⟨wr.heap.size, 0, none⟩ : Addr).add j) = some u := one_str wr word
        have HU6 := Lib.hid hu6
        have hab : acc.length ≤ 1000000 := by have := HA.out; omega
        clear hg6 hu6 HO HB
        go_wp2_with ((at_builtin; refine wpList_appR rfl _ _ 34 9 _ 16 rfl Tryd.underlying34 infoS rfl (by decide) recS w.heap.size (.slice la acc.length lc) acc rfl ⟨wr.heap.size, 0, none⟩ 1 rfl word HO6.out HU6.out hab HB6.out.size ?_))
        intro v7 w7 ho7 hg7 hor7
        have hb7 : Below w.heap.size w w7 := HB6.out.grown hg7 HB6.out.size (fun g e => (HO6.out.lt g e).1)
        have HO7 := Lib.hid ho7
        have HB7 := Lib.hid hb7
        obtain ⟨l7, c7, rfl⟩ := ho7.form
        clear ho7 hg7 hor7 hb7
        go_wp2_with fail
        go_roundw
        case rel => exact ⟨k + 1, acc ++ [word], [], by go_num, rfl, by omega, HAN, Lib.hid (by simp), HFN, Lib.hid (by simpa using HO7.out), HB7⟩
        case measure => first | (simp [RowKit.intOf]; done) | (simp [RowKit.intOf]; omega)
      · have hcnb : ((cn : Int) == 10) = false := by
          have : cn ≠ 10 := fun h => h10 (UInt8.toNat_inj.1 (by rw [hcn, h]; rfl))
          rw [beq_eq_false_iff_ne.2 (by omega)]
        rw [linX_more word (l.drop (k + 1)) c h10] at hf
        have hj := str_join word [c]
        have hsz : ¬ 9223372036854775807 < word.length + 1 := by omega
        have HFN : Hid (acc ++ linX (word ++ [c]) (l.drop (k + 1)) = R) := Lib.hid hf
        have HWN : Hid ((word ++ [c]).length ≤ k + 1) := Lib.hid (by rw [List.length_append, List.length_singleton]; omega)
        have HAN : Hid (acc.length ≤ k + 1) := Lib.hid (by have := HA.out; omega)
        obtain ⟨word2, hw2⟩ : ∃ x, word ++ [c] = x := ⟨_, rfl⟩
        rw [hw2] at hj HFN HWN
        have hq0 : (k : Int) ≤ (k : Int) + 1 := by omega
        have hq1 : (k : Int) + 1 ≤ (l.length : Int) := by omega
        have hq2 : ((k : Int) + 1).toNat = k + 1 := by omega
        clear hf HF HW HA hd hw2 h10
        go_wp2_with fail
        go_roundw
        case rel => exact ⟨k + 1, acc, word2, by go_num, rfl, by omega, HAN, HWN, HFN, HO, HB⟩
        case measure => simp [RowKit.intOf]; omega
    · obtain rfl : k = l.length := by omega
      have hki : ¬ (l.length : Int) < (l.length : Int) := by omega
      have hkd : decide ((l.length : Int) < (l.length : Int)) = false := decide_eq_false hki
      rw [List.drop_length, linX_end] at hf
      cases hem : word.isEmpty with
      | true =>
        rw [if_pos (List.isEmpty_iff.1 hem), List.append_nil] at hf
        subst hf
        have HV := Lib.hid (OR.rv recS HO.out)
        clear HF HA HW HO
        go_wp2_with fail
        go_ret
        exact ⟨_, rfl, HV.out, HB.out⟩
      | false =>
        rw [if_neg (by intro e; rw [e] at hem; cases hem)] at hf
        subst hf
        clear HF
        have hg6 : Below wr.heap.size wr (wr.alloc (.cells #[.string ⟨word.toArray⟩] 9)) := (Below.refl _ _).alloc (Nat.le_refl _) _
        have HB6 := Lib.hid (tr3 HB.out hg6)
        have HO6 := Lib.hid (HO.out.below hg6)
        have hu6 : ∀ j u, (enS word)[j]? = some u → (wr.alloc (.cells #[.string ⟨word.toArray⟩] 9)).cell? ((⟨wr.heap.size, 0, none⟩ : Addr).add j) = some u := one_str wr word
        have HU6 := Lib.hid hu6
        have hab : acc.length ≤ 1000000 := by have := HA.out; omega
        clear hg6 hu6 HO HB
        go_wp2_with ((at_builtin; refine wpList_appR rfl _ _ 34 9 _ 16 rfl Tryd.underlying34 infoS rfl (by decide) recS w.heap.size (.slice la acc.length lc) acc rfl ⟨wr.heap.size, 0, none⟩ 1 rfl word HO6.out HU6.out hab HB6.out.size ?_))
        intro v7 w7 ho7 hg7 hor7
        have hb7 : Below w.heap.size w w7 := HB6.out.grown hg7 HB6.out.size (fun g e => (HO6.out.lt g e).1)
        have HO7 := Lib.hid ho7
        have HB7 := Lib.hid hb7
        obtain ⟨l7, c7, rfl⟩ := ho7.form
        clear ho7 hg7 hor7 hb7
        have HV7 := Lib.hid (OR.rv recS HO7.out)
        go_wp2_with fail
        go_ret
        exact ⟨_, rfl, by simpa using HV7.out, HB7.out⟩
set_option maxRecDepth 20000 in
set_option maxHeartbeats 1600000 in
/-- a row less its last. -/
theorem SV.take {w : World} {a : Option Addr} {n cap : Nat} {L : List (List UInt8)} (h : SV w (.slice a n cap) L) (m : Nat) (hm : m ≤ n) : SV w (.slice a m cap) (L.take m) := by
  obtain ⟨a', cap', hv, h1, h2, h3, h4⟩ := h
  rw [Value.slice.injEq] at hv
  obtain ⟨rfl, rfl, rfl⟩ := hv
  have hl : (L.take m).length = m := by rw [List.length_take]; omega
  refine ⟨a, cap, by rw [hl], by omega, h2, h3, fun i x hx => h4 i x ?_⟩
  rw [List.getElem?_take] at hx
  split at hx
  · exact hx
  · cases hx
theorem linV_eq (l : List UInt8) : linV l = if (spl 10 l).getD ((spl 10 l).length - 1) [] = [] then (spl 10 l).take ((spl 10 l).length - 1) else spl 10 l := by
  unfold linV linX
  rw [spX_nil]
  have hne := spl_ne 10 l
  obtain ⟨P, hP⟩ : ∃ P, spl 10 l = P := ⟨_, rfl⟩
  rw [hP] at hne ⊢
  have hlen : P.length ≠ 0 := fun e => hne (List.eq_nil_of_length_eq_zero e)
  rw [List.getLast?_eq_getElem?, List.dropLast_eq_take, List.getD_eq_getElem?_getD, List.getElem?_eq_getElem (by omega)]
  simp
set_option maxRecDepth 20000 in
set_option maxHeartbeats 1600000 in
theorem wlines_v (l : List UInt8) (w : World) (hl : l.length ≤ 100000) (hN : NM w) : Calls Tryd.prog 27 #[.string ⟨l.toArray⟩] w fun e w' => ∃ v, e = .returned v ∧ SV w' v (linV l) ∧ Below w.heap.size w w' := by
  rw [linV_eq]
  have hsl := spl_len 10 l
  have hne := spl_ne 10 l
  have CS := Lib.hid (split_v 10 l w (by omega) hN)
  obtain ⟨P, hP⟩ : ∃ P, spl 10 l = P := ⟨_, rfl⟩
  rw [hP] at hsl hne CS ⊢
  obtain ⟨n, hn⟩ : ∃ n, P.length = n := ⟨_, rfl⟩
  have hn0 : n ≠ 0 := fun e => hne (List.eq_nil_of_length_eq_zero (by omega))
  rw [hn] at hsl ⊢
  obtain ⟨k, rfl⟩ : ∃ k, n = k + 1 := ⟨n - 1, by omega⟩
  rw [Nat.add_sub_cancel]
  clear hP hne hn0 hN
  have hk1 : (k : Int) < (k : Int) + 1 := by omega
  have hw1 : IntKind.i64.wrap ((k : Int) + 1 - 1) = (k : Int) := by rw [IntKind.wrap_i64]; omega
  obtain ⟨E, hE⟩ : ∃ E, P.getD k [] = E := ⟨_, rfl⟩
  rw [hE]
  cases hem : E.isEmpty with
  | true =>
    rw [if_pos (List.isEmpty_iff.1 hem)]
    go_enter Tryd.func27, Tryd.ntmps27
    go_wp2_with fail
    refine CS.out.mono ?_
    rintro e w1 ⟨v1, rfl, hv1, hb1⟩
    obtain ⟨a1, c1, rfl, hc1, hm1⟩ := RV.form hv1
    rw [hn] at hv1 hc1
    rw [hn]
    have HV1 := Lib.hid hv1
    have HB1 := Lib.hid hb1
    obtain ⟨b, off, rfl, hbl, hxc⟩ := SV.at hv1 k (by omega)
    rw [hE] at hxc
    unfold maxLen at hm1
    have HV2 := Lib.hid (SV.take HV1.out k (by omega))
    clear CS hv1 hb1 hE
    go_wp2_with fail
    go_ret
    exact ⟨_, rfl, HV2.out, HB1.out⟩
  | false =>
    rw [if_neg (by intro e; rw [e] at hem; cases hem)]
    go_enter Tryd.func27, Tryd.ntmps27
    go_wp2_with fail
    refine CS.out.mono ?_
    rintro e w1 ⟨v1, rfl, hv1, hb1⟩
    obtain ⟨a1, c1, rfl, hc1, hm1⟩ := RV.form hv1
    rw [hn] at hv1 hc1
    rw [hn]
    have HV1 := Lib.hid hv1
    have HB1 := Lib.hid hb1
    obtain ⟨b, off, rfl, hbl, hxc⟩ := SV.at hv1 k (by omega)
    rw [hE] at hxc
    unfold maxLen at hm1
    clear CS hv1 hb1 hE
    go_wp2_with fail
    go_ret
    exact ⟨_, rfl, HV1.out, HB1.out⟩
end Go.Proofs.YtdgjlniciehjbaaDoor.wd
