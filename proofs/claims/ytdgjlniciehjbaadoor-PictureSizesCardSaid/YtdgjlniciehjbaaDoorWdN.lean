/- The words of a line: the program's walk over any bytes (layer 5). -/
import Derived.Test.YtdgjlniciehjbaaDoorWdM
namespace Go.Proofs.YtdgjlniciehjbaaDoor.wd
open Go.ChangeShapes Go.WideShapes Go.ChangeAt Go.RowKit
open Go.Proofs.YtdgjlniciehjbaaDoor.st
set_option linter.unusedVariables false
set_option linter.unusedSimpArgs false
theorem take_more (l : List UInt8) (b k n : Nat) (hb : b ≤ k) : (l.drop b).take (k - b) ++ (l.drop k).take n = (l.drop b).take (k + n - b) := by
  have e1 : k + n - b = (k - b) + n := by omega
  rw [e1, List.take_add, List.drop_drop, show b + (k - b) = k by omega]
theorem ne_word (l : List UInt8) (b k : Nat) (hb : b < k) (hk : k ≤ l.length) : ne ((l.drop b).take (k - b)) = true := by
  unfold ne
  cases h : (l.drop b).take (k - b) with
  | nil =>
    have := congrArg List.length h
    rw [List.length_take, List.length_drop, List.length_nil] at this
    omega
  | cons _ _ => rfl
set_option maxRecDepth 20000 in
set_option maxHeartbeats 1600000 in
theorem wfields_v (l : List UInt8) (w : World) (hl : l.length ≤ 100000) : Calls Tryd.prog 28 #[.string ⟨l.toArray⟩] w fun e w' => ∃ v, e = .returned v ∧ SV w' v (fldV l) ∧ Below w.heap.size w w' := by
  have hfs := str_size l
  obtain ⟨R, hR⟩ : ∃ R, fldV l = R := ⟨_, rfl⟩
  rw [hR]
  obtain ⟨W, hW⟩ : ∃ W, w.iter ⟨l.toArray⟩ 0 = W := ⟨_, rfl⟩
  have hit : W.heap[w.heap.size]? = some (.stringIter ⟨l.toArray⟩ 0) := by rw [← hW]; exact World.iter_heap w ⟨l.toArray⟩ 0
  have hB0 : Below w.heap.size w W := by rw [← hW]; unfold World.iter; exact (Below.refl _ _).alloc (Nat.le_refl _) _
  have HI0 := Lib.hid hit
  have HB0 := Lib.hid hB0
  have HW := Lib.hid hW
  have HF0 : Hid (([] : List (List UInt8)) ++ fldX [] (l.drop 0) = R) := Lib.hid (by rw [List.drop_zero, fldX_nil]; exact hR)
  have HO0 : Hid (OR 1 enS W (w.heap.size + 1) 9 (.slice none 0 0) []) := Lib.hid (OR.nil _ _ _)
  have HA0 : Hid (([] : List (List UInt8)).length ≤ 0) := Lib.hid (Nat.le_refl _)
  clear hR hit hB0 hW
  go_enter Tryd.func28, Tryd.ntmps28
  go_wp2_with fail
  rw [HW.out]
  clear HW
  go_loopw [3, 4] (fun lv bv wr => ∃ (k : Nat) (acc : List (List UInt8)) (word : List UInt8), ((bv = .int .i64 (-1) ∧ word = []) ∨ ∃ b : Nat, bv = .int .i64 (b : Int) ∧ b < k ∧ word = (l.drop b).take (k - b)) ∧ k ≤ l.length ∧ Hid (acc.length ≤ k) ∧ Hid (acc ++ fldX word (l.drop k) = R) ∧ Hid (OR 1 enS wr (w.heap.size + 1) 9 lv acc) ∧ Hid (wr.heap[w.heap.size]? = some (.stringIter ⟨l.toArray⟩ k)) ∧ Hid (Below w.heap.size w wr)) (fun _ _ wr => l.length - wr.iterPos w.heap.size)
  case atStart => exact ⟨0, [], [], .inl ⟨rfl, rfl⟩, by omega, HA0, HF0, HO0, HI0, HB0⟩
  case round =>
    clear HF0 HO0 HB0 HA0 HI0
    obtain ⟨k, acc, word, hbv, hk, HA, HF, HO, HI, HB⟩ := hrel
    obtain ⟨la, lc, rfl⟩ := HO.out.form
    have hf := HF.out
    by_cases hlt : k < l.length
    · obtain ⟨r, n, hD, hr, hkn, hcase⟩ := rune_at l k hlt
      obtain ⟨W2, hW2⟩ : ∃ W2, wr.iterAt w.heap.size ⟨l.toArray⟩ (k + (n + 1)) = W2 := ⟨_, rfl⟩
      have hnx : ∀ ty, (Instr.next (.pointer (some ⟨w.heap.size, 0, none⟩)) true ty).run Tryd.prog wr = .ok (.tuple #[.bool true, .int .i64 k, .int .i32 (r : Int)]) W2 := fun ty => by
        have := Lib.run_next_any_at (P := Tryd.prog) wr w.heap.size ⟨l.toArray⟩ k ty HI.out (by rw [hfs]; exact hlt)
        rw [hD, hW2] at this
        exact this
      have HI2 : Hid (W2.heap[w.heap.size]? = some (.stringIter ⟨l.toArray⟩ (k + (n + 1)))) := Lib.hid (by rw [← hW2]; exact Lib.iterAt_heap wr _ _ k _ HI.out)
      have HB2 : Hid (Below w.heap.size w W2) := Lib.hid (by rw [← hW2]; exact Lib.below_iterAt HB.out (Nat.le_refl _) _ _)
      have HO2 : Hid (OR 1 enS W2 (w.heap.size + 1) 9 (.slice la acc.length lc) acc) := Lib.hid (by rw [← hW2]; exact OR.iterAt HO.out (by omega) _ _)
      clear hW2 HO HB hD HF
      rcases hcase with ⟨rfl, rfl, hd⟩ | ⟨hr32, m, hml, hm, hd, hmt⟩
      · rw [hd, fldX_cut] at hf
        have h32 : (((32 : Nat) : Int) == 32) = true := rfl
        have h32n : (((32 : Nat) : Int) != 32) = false := rfl
        rcases hbv with ⟨rfl, rfl⟩ | ⟨b, rfl, hbk, hw⟩
        · have HFN : Hid (acc ++ fldX [] (l.drop (k + (0 + 1))) = R) := Lib.hid (by simpa [ne] using hf)
          have HAN : Hid (acc.length ≤ k + (0 + 1)) := Lib.hid (by have := HA.out; omega)
          clear hf hd HA
          go_wp2_with fail
          have hip : wr.iterPos w.heap.size = k := by unfold World.iterPos; rw [HI.out]
          have hip2 : W2.iterPos w.heap.size = k + (0 + 1) := by unfold World.iterPos; rw [HI2.out]
          go_roundw
          case rel => exact ⟨k + (0 + 1), acc, [], .inl ⟨rfl, rfl⟩, by omega, HAN, HFN, HO2, HI2, HB2⟩
          case measure => omega
        · have hnew := ne_word l b k hbk hk
          have hsub := str_sub l b (k - b)
          rw [show b + (k - b) = k by omega] at hsub
          rw [← hw] at hnew hsub
          rw [hnew, if_pos rfl] at hf
          have hbp : (0 : Int) ≤ (b : Int) := by omega
          have hbpd : decide ((0 : Int) ≤ (b : Int)) = true := decide_eq_true hbp
          have hbn : ¬ (b : Int) < 0 := by omega
          have hbki : (b : Int) ≤ (k : Int) := by omega
          have hkli : (k : Int) ≤ (l.length : Int) := by omega
          have HFN : Hid ((acc ++ [word]) ++ fldX [] (l.drop (k + (0 + 1))) = R) := Lib.hid (by simpa using hf)
          have HAN : Hid ((acc ++ [word]).length ≤ k + (0 + 1)) := Lib.hid (by rw [List.length_append, List.length_singleton]; have := HA.out; omega)
          clear hf hd hnew hw
          have hg6 : Below W2.heap.size W2 (W2.alloc (.cells #[.string ⟨word.toArray⟩] 9)) := (Below.refl _ _).alloc (Nat.le_refl _) _
          have HB6 := Lib.hid (tr3 HB2.out hg6)
          have HO6 := Lib.hid (HO2.out.below hg6)
          have hu6 : ∀ j u, (enS word)[j]? = some u → (W2.alloc (.cells #[.string ⟨word.toArray⟩] 9)).cell? ((⟨W2.heap.size, 0, none⟩ : Addr).add j) = some u := one_str W2 word
          have HU6 := Lib.hid hu6
          have hab : acc.length ≤ 1000000 := by have := HA.out; omega
          have hi6 := kb HI2.out hg6
          have HS6 := Lib.hid (show w.heap.size + 1 ≤ (W2.alloc (.cells #[.string ⟨word.toArray⟩] 9)).heap.size from (Array.getElem?_eq_some_iff.1 hi6).1)
          have HI6 := Lib.hid hi6
          clear hg6 hu6 hi6 HO2 HB2 HI2
          go_wp2_with ((at_builtin; refine wpList_appR rfl _ _ 34 9 _ 16 rfl Tryd.underlying34 infoS rfl (by decide) recS (w.heap.size + 1) (.slice la acc.length lc) acc rfl ⟨W2.heap.size, 0, none⟩ 1 rfl word HO6.out HU6.out hab HS6.out ?_))
          intro v7 w7 ho7 hg7 hor7
          have hb7 : Below w.heap.size w w7 := HB6.out.grown hg7 HB6.out.size (fun g e => by have := (HO6.out.lt g e).1; omega)
          have hbB := (Below.refl (w.heap.size + 1) _).grown hg7 HS6.out (fun g e => (HO6.out.lt g e).1)
          have HI7 := Lib.hid ((hbB.block w.heap.size (by omega)).trans HI6.out)
          have HO7 := Lib.hid ho7
          have HB7 := Lib.hid hb7
          obtain ⟨l7, c7, rfl⟩ := ho7.form
          clear ho7 hg7 hor7 hb7 hbB HI6 HS6 HU6
          go_wp2_with fail
          have hip : wr.iterPos w.heap.size = k := by unfold World.iterPos; rw [HI.out]
          have hip2 : w7.iterPos w.heap.size = k + (0 + 1) := by unfold World.iterPos; rw [HI7.out]
          go_roundw
          case rel => exact ⟨k + (0 + 1), acc ++ [word], [], .inl ⟨rfl, rfl⟩, by omega, HAN, HFN, Lib.hid (by simpa using HO7.out), HI7, HB7⟩
          case measure => omega
      · have hr32' : ¬ (r : Int) = 32 := by omega
        have h32 : ((r : Int) == 32) = false := beq_eq_false_iff_ne.2 hr32'
        have h32n : ((r : Int) != 32) = true := by rw [bne, h32]; rfl
        rw [hd, fldX_more word m _ hm] at hf
        have HAN : Hid (acc.length ≤ k + (n + 1)) := Lib.hid (by have := HA.out; omega)
        rcases hbv with ⟨rfl, rfl⟩ | ⟨b, rfl, hbk, hw⟩
        · have HFN : Hid (acc ++ fldX m (l.drop (k + (n + 1))) = R) := Lib.hid (by simpa using hf)
          have hmw : m = (l.drop k).take (k + (n + 1) - k) := by rw [← hmt]; congr 1; omega
          clear hf hd HA hm hmt hml
          go_wp2_with fail
          have hip : wr.iterPos w.heap.size = k := by unfold World.iterPos; rw [HI.out]
          have hip2 : W2.iterPos w.heap.size = k + (n + 1) := by unfold World.iterPos; rw [HI2.out]
          go_roundw
          case rel => exact ⟨k + (n + 1), acc, m, .inr ⟨k, rfl, by omega, hmw⟩, by omega, HAN, HFN, HO2, HI2, HB2⟩
          case measure => omega
        · have hbp : (0 : Int) ≤ (b : Int) := by omega
          have hbpd : decide ((0 : Int) ≤ (b : Int)) = true := decide_eq_true hbp
          have hbn : ¬ (b : Int) < 0 := by omega
          have hbnd : decide ((b : Int) < 0) = false := decide_eq_false hbn
          have HFN : Hid (acc ++ fldX (word ++ m) (l.drop (k + (n + 1))) = R) := Lib.hid hf
          have hmw : word ++ m = (l.drop b).take (k + (n + 1) - b) := by rw [hw, ← hmt]; exact take_more l b k (n + 1) (by omega)
          clear hf hd HA hm hmt hml hw
          go_wp2_with fail
          have hip : wr.iterPos w.heap.size = k := by unfold World.iterPos; rw [HI.out]
          have hip2 : W2.iterPos w.heap.size = k + (n + 1) := by unfold World.iterPos; rw [HI2.out]
          go_roundw
          case rel => exact ⟨k + (n + 1), acc, word ++ m, .inr ⟨b, rfl, by omega, hmw⟩, by omega, HAN, HFN, HO2, HI2, HB2⟩
          case measure => omega
    · obtain rfl : k = l.length := by omega
      have hnx : ∀ ty, (Instr.next (.pointer (some ⟨w.heap.size, 0, none⟩)) true ty).run Tryd.prog wr = .ok (.tuple #[.bool false]) wr := fun ty => Lib.run_next_end_at (P := Tryd.prog) wr w.heap.size ⟨l.toArray⟩ l.length ty HI.out (by rw [hfs]; omega)
      rw [List.drop_length, fldX_end] at hf
      rcases hbv with ⟨rfl, rfl⟩ | ⟨b, rfl, hbk, hw⟩
      · have hf' : acc = R := by simpa [ne] using hf
        subst hf'
        have HV := Lib.hid (OR.rv recS HO.out)
        clear hf HF HA HO
        go_wp2_with fail
        go_ret
        exact ⟨_, rfl, HV.out, HB.out⟩
      · have hnew := ne_word l b l.length hbk (Nat.le_refl _)
        rw [← hw] at hnew
        have hsub := str_drop l b
        rw [hfs] at hsub
        rw [show l.drop b = word by rw [hw]; exact (List.take_of_length_le (by rw [List.length_drop]; exact Nat.le_refl _)).symm] at hsub
        rw [hnew, if_pos rfl] at hf
        subst hf
        have hbp : (0 : Int) ≤ (b : Int) := by omega
        have hbpd : decide ((0 : Int) ≤ (b : Int)) = true := decide_eq_true hbp
        have hbli : (b : Int) ≤ (l.length : Int) := by omega
        have HO2 := HO
        have HB2 := HB
        have HI2 := HI
        clear hnew hw HF HO HB
        have hg6 : Below wr.heap.size wr (wr.alloc (.cells #[.string ⟨word.toArray⟩] 9)) := (Below.refl _ _).alloc (Nat.le_refl _) _
        have HB6 := Lib.hid (tr3 HB2.out hg6)
        have HO6 := Lib.hid (HO2.out.below hg6)
        have hu6 : ∀ j u, (enS word)[j]? = some u → (wr.alloc (.cells #[.string ⟨word.toArray⟩] 9)).cell? ((⟨wr.heap.size, 0, none⟩ : Addr).add j) = some u := one_str wr word
        have HU6 := Lib.hid hu6
        have hab : acc.length ≤ 1000000 := by have := HA.out; omega
        have hi6 := kb HI2.out hg6
        have HS6 := Lib.hid (show w.heap.size + 1 ≤ (wr.alloc (.cells #[.string ⟨word.toArray⟩] 9)).heap.size from (Array.getElem?_eq_some_iff.1 hi6).1)
        have HI6 := Lib.hid hi6
        clear hg6 hu6 hi6 HO2 HB2 HI2
        go_wp2_with ((at_builtin; refine wpList_appR rfl _ _ 34 9 _ 16 rfl Tryd.underlying34 infoS rfl (by decide) recS (w.heap.size + 1) (.slice la acc.length lc) acc rfl ⟨wr.heap.size, 0, none⟩ 1 rfl word HO6.out HU6.out hab HS6.out ?_))
        intro v7 w7 ho7 hg7 hor7
        have hb7 : Below w.heap.size w w7 := HB6.out.grown hg7 HB6.out.size (fun g e => by have := (HO6.out.lt g e).1; omega)
        have hbB := (Below.refl (w.heap.size + 1) _).grown hg7 HS6.out (fun g e => (HO6.out.lt g e).1)
        have HI7 := Lib.hid ((hbB.block w.heap.size (by omega)).trans HI6.out)
        have HO7 := Lib.hid ho7
        have HB7 := Lib.hid hb7
        obtain ⟨l7, c7, rfl⟩ := ho7.form
        clear ho7 hg7 hor7 hb7 hbB HI6 HS6 HU6
        have HV7 := Lib.hid (OR.rv recS HO7.out)
        go_wp2_with fail
        go_ret
        exact ⟨_, rfl, by simpa using HV7.out, HB7.out⟩
end Go.Proofs.YtdgjlniciehjbaaDoor.wd
