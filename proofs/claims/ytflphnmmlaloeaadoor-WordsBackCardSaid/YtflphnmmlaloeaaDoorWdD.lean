/- Lists in writing, words as a line (layer 5): the program's. -/
import Derived.Test.YtflphnmmlaloeaaDoorWdS
import Derived.Test.YtflphnmmlaloeaaDoorApp1
import Derived.Handy
namespace Go.Proofs.YtflphnmmlaloeaaDoor.wd
open Go.ChangeShapes Go.WideShapes Go.ChangeAt Go.RowKit
open Go.Proofs.YtflphnmmlaloeaaDoor.st
set_option linter.unusedVariables false
set_option linter.unusedSimpArgs false
theorem wjoin_v (v : Value) (L : List (List UInt8)) (w : World) (h : SV w v L) (hn : L.length ≤ 1000000) (hb : (Lib.join L [32]).length ≤ 1000000000) : Calls Tryd.prog 13 #[v] w fun e w' => e = .returned (.string ⟨(Lib.join L [32]).toArray⟩) ∧ Below w.heap.size w w' := by
  have CJ := Lib.hid (join_v 32 v L w h hn hb)
  obtain ⟨a, cap, rfl, _⟩ := h.form
  clear h
  go_enter Tryd.func13, Tryd.ntmps13
  go_wp2_with fail
  refine CJ.out.mono ?_
  rintro e w' ⟨rfl, hb⟩
  go_wp2_with fail
  go_ret
  exact ⟨rfl, hb⟩
theorem infoS : (Tryd.prog.info? 9).map (fun i => (i.zero, i.size, i.bytes)) = some (some (.string ByteArray.empty), 1, 16) := by kernel_rfl
theorem mk_strs (n : Nat) (hn : n ≤ 1000000) (w : World) : (Instr.makeSlice 22 (.int .i64 (n : Int)) (.int .i64 (n : Int))).run Tryd.prog w = .ok (.slice (some ⟨w.heap.size, 0, none⟩) n n) (w.alloc (.cells (Lib.cellsOf [] n) 9)) := by
  obtain ⟨i0, hi, hz0, hz1, hz2⟩ := info_parts infoS
  have := run_make (P := Tryd.prog) w 22 9 i0 (.string ByteArray.empty) Tryd.underlying22 hi hz0 .i64 .i64 (n : Int) (n : Int) (by omega) (by omega) (by rw [hz2]; omega) (by omega)
  rw [hz1, Nat.mul_one, show (Value.string ByteArray.empty).cells = #[.string ByteArray.empty] from rfl] at this
  rw [Lib.cellsOf_nil]
  simpa using this
def lsV (xs : List Int) : List UInt8 := if xs = [] then [45] else Lib.join (xs.map Lib.itoa) [44]
theorem lens_itoa (xs : List Int) (h : ∀ x ∈ xs, I64 x) : Lib.lens (xs.map Lib.itoa) ≤ 20 * xs.length := by
  induction xs with
  | nil => simp [Lib.lens]
  | cons x xs ih =>
    have h1 := itoa_len (h x (by simp))
    have h2 := ih (fun y hy => h y (List.mem_cons_of_mem _ hy))
    simp only [Lib.lens, List.map_cons, List.length_cons] at h2 ⊢
    simp at h2 ⊢
    omega
theorem join_itoa_len (xs : List Int) (h : ∀ x ∈ xs, I64 x) : (Lib.join (xs.map Lib.itoa) [44]).length ≤ 21 * xs.length := by
  cases xs with
  | nil => simp [Lib.join_nil]
  | cons x xs =>
    have := lens_itoa (x :: xs) h
    rw [List.map_cons, Lib.join_length]
    rw [List.map_cons] at this
    simp at this ⊢
    omega
set_option maxRecDepth 20000 in
set_option maxHeartbeats 1600000 in
theorem list_v (xs : List Int) (v : Value) (w : World) (hv : View w v xs) (hI : ∀ x ∈ xs, I64 x) (hn : xs.length ≤ 100000) (hN : NM w) : Calls Tryd.prog 21 #[v] w fun e w' => e = .returned (.string ⟨(lsV xs).toArray⟩) ∧ Below w.heap.size w w' := by
  rcases hv.cases with ⟨rfl, a, cap, rfl, _⟩ | ⟨hne, b, off, cap, rfl, hcap, hbl, hm, hcell⟩
  · rw [lsV, if_pos rfl]
    clear hv
    go_enter Tryd.func21, Tryd.ntmps21
    go_wp2_with fail
    go_ret
    exact ⟨rfl, Below.refl _ _⟩
  · rw [lsV, if_neg hne]
    have hJL := join_itoa_len xs hI
    obtain ⟨T, hT⟩ : ∃ T, Lib.join (xs.map Lib.itoa) [44] = T := ⟨_, rfl⟩
    rw [hT] at hJL ⊢
    have HT := Lib.hid hT
    obtain ⟨n, hnl⟩ : ∃ n, xs.length = n := ⟨_, rfl⟩
    have hn0 : n ≠ 0 := by intro e; exact hne (List.eq_nil_of_length_eq_zero (by omega))
    have hn0b : ((n : Int) == 0) = false := beq_eq_false_iff_ne.2 (by omega)
    rw [hnl] at hcap hm hn hJL
    have HX := Lib.hid hnl
    have hmk := mk_strs n (by omega) w
    obtain ⟨W, hW⟩ : ∃ W, w.alloc (.cells (Lib.cellsOf [] n) 9) = W := ⟨_, rfl⟩
    rw [hW] at hmk
    have hPB : W.heap[w.heap.size]? = some (.cells (Lib.cellsOf ((xs.take 0).map fun x => mkS (Lib.itoa x)) n) 9 (0, 0)) := by rw [← hW]; exact heap_new _ _ _
    have hb0 : Below w.heap.size w W := by rw [← hW]; exact (Below.refl _ _).alloc (Nat.le_refl _) _
    have HC : Hid (∀ i, i < n → w.cell? ⟨b, off + i, none⟩ = some (.int .i64 (xs.getD i 0))) := Lib.hid (by rw [← hnl]; exact hcell)
    have HI := Lib.hid hI
    have HN := Lib.hid hN
    have hP0 := Lib.hid hPB
    have hB0 := Lib.hid hb0
    have hvv : (Value.slice (some ⟨b, off, none⟩) xs.length cap) = .slice (some ⟨b, off, none⟩) n cap := by rw [hnl]
    rw [hvv]
    clear hv hcell hI hN hPB hb0 hW hT hne hnl hvv
    go_enter Tryd.func21, Tryd.ntmps21
    go_wp2_with fail
    go_loopw [14] (fun i wr => ∃ k : Nat, i = .int .i64 (k : Int) ∧ k ≤ n ∧ Hid (wr.heap[w.heap.size]? = some (.cells (Lib.cellsOf ((xs.take k).map fun x => mkS (Lib.itoa x)) n) 9 (0, 0))) ∧ Hid (Below w.heap.size w wr)) (fun i _ => n - (RowKit.intOf i).toNat)
    case atStart => exact ⟨0, rfl, by omega, hP0, hB0⟩
    case round =>
      clear hP0 hB0 hmk
      obtain ⟨k, rfl, hk, HP, HB⟩ := hrel
      by_cases hlt : k < n
      · have hki : (k : Int) < (n : Int) := by omega
        have hx := HC.out k hlt
        have hxc := kc hx HB.out
        have htk : xs.take (k + 1) = xs.take k ++ [xs.getD k 0] := by
          rw [List.take_add_one, List.getD_eq_getElem?_getD, List.getElem?_eq_getElem (by have := HX.out; omega)]; simp
        have hxI := HI.out (xs.getD k 0) (by rw [List.getD_eq_getElem?_getD, List.getElem?_eq_getElem (by have := HX.out; omega)]; exact List.getElem_mem _)
        obtain ⟨x, hxe⟩ : ∃ x, xs.getD k 0 = x := ⟨_, rfl⟩
        rw [hxe] at hxc htk hxI
        have HTK := Lib.hid htk
        have CO := Lib.hid (fun w hN => of_v x w hxI hN)
        clear hx htk hxI hxe
        go_wp2_with fail
        refine (CO.out _ (HN.out.below HB.out)).mono ?_
        rintro e w5 ⟨rfl, hb5⟩
        have hp5 := kb HP.out hb5
        have hdl : ((xs.take k).map fun x => mkS (Lib.itoa x)).length = k := by rw [List.length_map, List.length_take]; have := HX.out; omega
        have hlt' : ((xs.take k).map fun x => mkS (Lib.itoa x)).length < n := by omega
        have hnext := Lib.cellsOf_next hlt'
        have hset := Lib.cellsOf_set hlt' (mkS (Lib.itoa x))
        rw [hdl] at hnext hset
        have c5 : w5.cell? ⟨w.heap.size, k, none⟩ = some (.string ByteArray.empty) := by rw [cel hp5 k]; exact hnext
        have f5 : w5.frozen? ⟨w.heap.size, k, none⟩ = false := frz hp5 k
        have hp6 := set_blk w5 w.heap.size k (.string (mkS (Lib.itoa x))) hp5
        have HP6 : Hid ((w5.setCell ⟨w.heap.size, k, none⟩ (.string ⟨(Lib.itoa x).toArray⟩)).heap[w.heap.size]? = some (.cells (Lib.cellsOf ((xs.take (k + 1)).map fun x => mkS (Lib.itoa x)) n) 9 (0, 0))) := Lib.hid (by
          rw [HTK.out, List.map_append, List.map_cons, List.map_nil, ← hset]
          simpa using hp6)
        have HB6 : Hid (Below w.heap.size w (w5.setCell ⟨w.heap.size, k, none⟩ (.string ⟨(Lib.itoa x).toArray⟩))) := Lib.hid ((tr3 HB.out hb5).setCell (p := ⟨w.heap.size, k, none⟩) (Nat.le_refl _) _)
        clear hp5 hdl hlt' hnext hset hp6 hb5 CO hxc HP
        go_wp2_with fail
        go_roundw
        case rel => exact ⟨k + 1, by go_num, by omega, HP6, HB6⟩
        case measure => simp [RowKit.intOf]; omega
      · obtain rfl : k = n := by omega
        have hp := HP.out
        have htake : xs.take k = xs := List.take_of_length_le (by have := HX.out; omega)
        rw [htake] at hp
        have hlm : (xs.map fun x => mkS (Lib.itoa x)).length = k := by rw [List.length_map]; exact HX.out
        have hfull := Lib.cellsOf_full (xs.map fun x => mkS (Lib.itoa x))
        rw [hlm] at hfull
        rw [hfull] at hp
        have hmm : (xs.map fun x => mkS (Lib.itoa x)).map Value.string = (xs.map Lib.itoa).map fun l => Value.string (mkS l) := by simp [List.map_map, Function.comp_def]
        rw [hmm] at hp
        have hsv := SV.of_block hp (by rw [List.length_map]; have := HX.out; unfold maxLen; omega)
        have hll : (xs.map Lib.itoa).length = k := by rw [List.length_map]; exact HX.out
        rw [hll] at hsv
        have CJ := join_v 44 _ _ wr hsv (by rw [hll]; omega) (by rw [HT.out]; omega)
        rw [HT.out] at CJ
        replace CJ := Lib.hid CJ
        clear hp htake hlm hfull hmm hsv hll HP
        go_wp2_with fail
        refine CJ.out.mono ?_
        rintro e w6 ⟨rfl, hb6⟩
        have HB6 := Lib.hid (tr3 HB.out hb6)
        clear hb6 CJ
        go_wp2_with fail
        go_ret
        exact ⟨rfl, HB6.out⟩
end Go.Proofs.YtflphnmmlaloeaaDoor.wd
