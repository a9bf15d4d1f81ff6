/- What is wrong with an instruction (layer 3). -/
import Derived.Test.YtdneblbaofhehaaInA
import Derived.Laws.RangeString
namespace Go.Proofs.Ytdneblbaofhehaa.ins
open Go.ChangeShapes Go.WideShapes Go.ChangeAt Go.RowKit
open Go.Proofs.Ytdneblbaofhehaa.bin Go.Proofs.Ytdneblbaofhehaa.bits
set_option linter.unusedVariables false
set_option linter.unusedSimpArgs false
theorem kc {W W' : World} {B j : Nat} {v : Value} (h : W.cell? ⟨B, j, none⟩ = some v) (hb : Below W.heap.size W W') : W'.cell? ⟨B, j, none⟩ = some v :=
  (hb.cell (p := ⟨B, j, none⟩) (World.block_lt_of_cell? W _ h)).trans h
/-- one of the four letters -/
def Lt (x : UInt8) : Prop := x = 114 ∨ x = 110 ∨ x = 116 ∨ x = 102
theorem within_v (x : UInt8) (hx : Lt x) (n : Int) (b : Bool) (h : okL x n = b) (w : World) : Calls Try.prog 37 #[.int .u8 (x.toNat : Int), .int .i64 n] w fun e w' => e = .returned (.bool b) ∧ w = w' := by
  rcases hx with rfl | rfl | rfl | rfl
  · exact within_r n b h w
  · exact within_n n b h w
  · exact within_t n b h w
  · exact within_f n b h w
def loL (x : UInt8) : Int := if x = 110 then -32768 else 0
def hiL (x : UInt8) : Int := if x = 114 then 7 else if x = 102 then 15 else if x = 116 then 199 else 32767
theorem ends_v (x : UInt8) (hx : Lt x) (w : World) : Calls Try.prog 34 #[.string ⟨#[x]⟩] w fun e w' => e = .returned (.tuple #[.int .i64 (loL x), .int .i64 (hiL x)]) ∧ w = w' := by
  rcases hx with rfl | rfl | rfl | rfl
  · exact ends_r w
  · exact ends_n w
  · exact ends_t w
  · exact ends_f w
theorem okL_iff (x : UInt8) (hx : Lt x) (n : Int) : okL x n = decide (loL x ≤ n ∧ n ≤ hiL x) := by
  rcases hx with rfl | rfl | rfl | rfl
  · show decide (0 ≤ n ∧ n < 8) = decide (0 ≤ n ∧ n ≤ 7)
    rw [decide_eq_decide]; omega
  · rfl
  · show decide (0 ≤ n ∧ n < 200) = decide (0 ≤ n ∧ n ≤ 199)
    rw [decide_eq_decide]; omega
  · show decide (0 ≤ n ∧ n < 16) = decide (0 ≤ n ∧ n ≤ 15)
    rw [decide_eq_decide]; omega
theorem lt_128 (x : UInt8) (hx : Lt x) : x.toNat < 128 := by
  rcases hx with rfl | rfl | rfl | rfl <;> decide
theorem frm_ok : ∀ n : Nat, (frm n).length ≤ 3 ∧ ∀ x ∈ frm n, Lt x := by
  intro n
  have key : ∀ l : List UInt8, l.length ≤ 3 → l.all (fun x => x == 114 || x == 110 || x == 116 || x == 102) = true → l.length ≤ 3 ∧ ∀ x ∈ l, Lt x := by
    intro l h1 h2
    refine ⟨h1, fun x hx => ?_⟩
    have := List.all_eq_true.1 h2 x hx
    simp only [Bool.or_eq_true, beq_iff_eq] at this
    unfold Lt
    rcases this with ((h | h) | h) | h <;> simp [h]
  unfold frm
  split <;> exact key _ (by decide) (by decide)
theorem frmI_ok (op : Int) : (frmI op).length ≤ 3 ∧ ∀ x ∈ frmI op, Lt x := by
  unfold frmI
  split
  · exact frm_ok _
  · exact ⟨by simp, by simp⟩
/-- what is cut off, step by step -/
theorem drop_at {α : Type} [Inhabited α] (l : List α) (d : α) (i : Nat) (h : i < l.length) : l.drop i = l.getD i d :: l.drop (i + 1) := by
  rw [List.drop_eq_getElem_cons h]
  congr 1
  simp [List.getD_eq_getElem?_getD, List.getElem?_eq_getElem h]
theorem str_at (f : List UInt8) (i : Nat) (h : i < (⟨f.toArray⟩ : ByteArray).size) : (⟨f.toArray⟩ : ByteArray)[i]'h = f.getD i 0 := by
  have h2 : i < f.length := by
    have h3 : i < f.toArray.size := h
    simpa using h3
  show f.toArray[i] = _
  simp [List.getD_eq_getElem?_getD, List.getElem?_eq_getElem h2]
theorem str_size (f : List UInt8) : (⟨f.toArray⟩ : ByteArray).size = f.length := by show f.toArray.size = _; simp
theorem getD_Lt {f : List UInt8} (h : ∀ x ∈ f, Lt x) {i : Nat} (hi : i < f.length) : Lt (f.getD i 0) := by
  rw [List.getD_eq_getElem?_getD, List.getElem?_eq_getElem hi]
  exact h _ (List.getElem_mem hi)
theorem heap_new (w : World) (cs : Array Value) (e : TypeId) : (w.alloc (.cells cs e)).heap[w.heap.size]? = some (.cells cs e (0, 0)) := by
  show (w.heap.push _)[w.heap.size]? = _
  simp
theorem tr3 {a b c : World} (h1 : Below a.heap.size a b) (h2 : Below b.heap.size b c) : Below a.heap.size a c := h1.trans (h2.mono h1.size)
theorem iter_dd (W : World) (s : ByteArray) (q n p : Nat) : ((W.drewN q).iter s p).drewN n = (W.drewN (q + n)).iter s p := by
  rw [← World.drewN_drewN]; rfl
theorem iter_pos (W : World) (s : ByteArray) (q p g : Nat) (h : W.heap.size = g) : ((W.drewN q).iter s p).iterPos g = p := by
  subst h
  unfold World.iterPos
  have : ((W.drewN q).iter s p).heap[W.heap.size]? = some (.stringIter s p) := World.iter_heap (W.drewN q) s p
  rw [this]
theorem iter_below (W : World) (s : ByteArray) (q p : Nat) : Below W.heap.size W ((W.drewN q).iter s p) := (below_drewN (Below.refl _ _) q).alloc (Nat.le_refl _) _
def three (A B C : Int) : List Int := [A, B, C]
theorem three_cell {w : World} {g : Nat} {A B C : Int} {e : Nat} (h : w.heap[g]? = some (.cells #[.int .i64 A, .int .i64 B, .int .i64 C] e (0, 0))) (i : Nat) (hi : i < 3) : w.cell? ⟨g, i, none⟩ = some (.int .i64 ((three A B C).getD i 0)) := by
  match i, hi with
  | 0, _ => simp [World.cell?, h, three]
  | 1, _ => simp [World.cell?, h, three]
  | 2, _ => simp [World.cell?, h, three]
set_option maxRecDepth 20000 in
set_option maxHeartbeats 4000000 in
theorem pchk_v (op A B C c : Int) (f : List UInt8) (w : World) (ho : 0 ≤ op) (ho2 : op ≤ 25) (hl : f.length ≤ 3) (hL : Hid (∀ x ∈ f, Lt x)) (hf : Hid (PF op f)) (hc : chkL f (three A B C) = c) :
    Calls Try.prog 31 #[.agg #[.int .i64 op, .int .i64 A, .int .i64 B, .int .i64 C]] w fun e w' => e = .returned (.int .i64 c) ∧ Below w.heap.size w w' := by
  have CK := Lib.hid (fun w => known_v op true (by simp [ho, ho2]) w)
  obtain ⟨W, hW⟩ : ∃ W, (w.alloc (.cells #[.int .i64 op, .int .i64 A, .int .i64 B, .int .i64 C] 33)).alloc (.cells #[.int .i64 A, .int .i64 B, .int .i64 C] 83) = W := ⟨_, rfl⟩
  have hb0 : Below w.heap.size w W := by rw [← hW]; go_grown
  have hs0 : W.heap.size = w.heap.size + 1 + 1 := by rw [← hW]; simp
  have hcell : W.heap[w.heap.size + 1]? = some (.cells #[.int .i64 A, .int .i64 B, .int .i64 C] 83 (0, 0)) := by
    rw [← hW]
    have := heap_new (w.alloc (.cells #[.int .i64 op, .int .i64 A, .int .i64 B, .int .i64 C] 33)) #[.int .i64 A, .int .i64 B, .int .i64 C] 83
    simpa using this
  have HCL : Hid (∀ (q pos i : Nat), i < 3 → ((W.drewN q).iter ⟨f.toArray⟩ pos).cell? ⟨w.heap.size + 1, i, none⟩ = some (.int .i64 ((three A B C).getD i 0))) := Lib.hid fun q pos i hi => by
    refine kc (W := W.drewN q) (three_cell (w := W.drewN q) hcell i hi) ?_
    unfold World.iter; go_grown
  have HB0 := Lib.hid hb0
  have HW := Lib.hid hW
  have hc0 : Hid (chkL (f.drop 0) ((three A B C).drop 0) = c) := Lib.hid (by simpa using hc)
  have hfs := str_size f
  clear hc hW hcell hb0
  go_enter Try.func31, Try.ntmps31
  go_wp2_with (first | (go_at_call 35; (refine (CK.out _).mono ?_); rintro e w' ⟨rfl, rfl⟩) | (go_at_call 36; (refine (hf.out _).mono ?_); rintro e w' ⟨rfl, rfl⟩))
  rw [HW.out]
  go_loopw [24] (fun _ wr => ∃ pos q, wr = (W.drewN q).iter ⟨f.toArray⟩ pos ∧ pos ≤ f.length ∧ Hid (chkL (f.drop pos) ((three A B C).drop pos) = c)) (fun _ wr => f.length - wr.iterPos (w.heap.size + 1 + 1))
  case atStart => exact ⟨0, 0, rfl, by omega, hc0⟩
  case round =>
    clear hc0
    obtain ⟨pos, q, rfl, hpl, HC⟩ := hrel
    by_cases hlt : pos < f.length
    · have hps : pos < (⟨f.toArray⟩ : ByteArray).size := by rw [hfs]; exact hlt
      have hxL : Lt (f.getD pos 0) := getD_Lt hL.out hlt
      have hat := str_at f pos hps
      have hd : f.drop pos = f.getD pos 0 :: f.drop (pos + 1) := drop_at f 0 pos hlt
      have hd3 : (three A B C).drop pos = (three A B C).getD pos 0 :: (three A B C).drop (pos + 1) := drop_at _ 0 pos (by simp [three]; omega)
      have hcl := fun q pos' => HCL.out q pos' pos (by omega)
      obtain ⟨x, hx⟩ : ∃ x, f.getD pos 0 = x := ⟨_, rfl⟩
      obtain ⟨n, hn⟩ : ∃ n, (three A B C).getD pos 0 = n := ⟨_, rfl⟩
      rw [hx] at hxL hat hd
      rw [hn] at hd3 hcl
      have hc1 := HC.out
      rw [hd, hd3] at hc1
      have hnx : ∀ ty, (Instr.next (.pointer (some ⟨w.heap.size + 1 + 1, 0, none⟩)) true ty).run Try.prog ((W.drewN q).iter ⟨f.toArray⟩ pos) = .ok (.tuple #[.bool true, .int .i64 pos, .int .i32 (x.toNat : Int)]) ((W.drewN q).iter ⟨f.toArray⟩ (pos + 1)) := fun ty => by
        rw [← hs0, ← hat]
        exact run_next_ascii (P := Try.prog) (W.drewN q) ⟨f.toArray⟩ pos ty hps (by rw [hat]; exact lt_128 x hxL)
      have hplI : (pos : Int) < (f.length : Int) := by omega
      have CW := Lib.hid (fun b hb w => within_v x hxL n b hb w)
      clear hx hn hd hd3 HC hxL
      cases hok : okL x n with
      | false =>
        have h3 : c = 3 := by rw [← hc1]; simp [chkL, hok]
        subst h3
        clear hc1
        go_wp2_with fail
        go_quiet ((go_at_call 37; exact quiet_eq (CW.out false hok _)))
        go_wp2_with fail
        go_ret
        exact ⟨rfl, below_drewN (tr3 HB0.out (iter_below _ _ _ _)) _⟩
      | true =>
        have HC1 : Hid (chkL (f.drop (pos + 1)) ((three A B C).drop (pos + 1)) = c) := Lib.hid (by rw [← hc1]; simp [chkL, hok])
        clear hc1
        go_wp2_with fail
        go_quiet ((go_at_call 37; exact quiet_eq (CW.out true hok _)))
        go_wp2_with fail
        go_roundw
        case rel => exact ⟨pos + 1, q + nq, iter_dd _ _ _ _ _, by omega, HC1⟩
        case measure => rw [iter_dd, iter_pos _ _ _ _ _ hs0, iter_pos _ _ _ _ _ hs0]; omega
    · obtain rfl : pos = f.length := by omega
      have hnx : ∀ ty, (Instr.next (.pointer (some ⟨w.heap.size + 1 + 1, 0, none⟩)) true ty).run Try.prog ((W.drewN q).iter ⟨f.toArray⟩ f.length) = .ok (.tuple #[.bool false]) ((W.drewN q).iter ⟨f.toArray⟩ f.length) := fun ty => by
        rw [← hs0]
        exact run_next_end (P := Try.prog) (W.drewN q) ⟨f.toArray⟩ f.length ty (by rw [hfs]; omega)
      obtain ⟨W1, hW1⟩ : ∃ W1, (W.drewN q).iter ⟨f.toArray⟩ f.length = W1 := ⟨_, rfl⟩
      have hB1 : Below w.heap.size w W1 := by rw [← hW1]; exact tr3 HB0.out (iter_below _ _ _ _)
      have hcl : Hid (∀ i, i < 3 → W1.cell? ⟨w.heap.size + 1, i, none⟩ = some (.int .i64 ((three A B C).getD i 0))) := Lib.hid (by rw [← hW1]; exact HCL.out q f.length)
      have hbl : w.heap.size + 1 < W1.heap.size := World.block_lt_of_cell? _ _ (hcl.out 0 (by omega))
      have hc1 : Hid (chkL [] ((three A B C).drop f.length) = c) := Lib.hid (by have := HC.out; rw [List.drop_length] at this; exact this)
      have hflI : (f.length : Int) ≤ 3 := by omega
      have HB1 := Lib.hid hB1
      obtain ⟨l, hfl⟩ : ∃ l, f.length = l := ⟨_, rfl⟩
      have hfs2 := hfs
      rw [hfl] at hl hflI hc1 hW1 hnx hfs2 ⊢
      rw [hW1] at hnx ⊢
      clear hW1 hB1 HC HCL HW HB0 CK
      have HFL := Lib.hid hfl
      clear hfl hfs
      by_cases h3 : l = 3
      · subst h3
        have hc2 : c = 0 := by rw [← hc1.out]; simp [chkL, three]
        subst hc2
        clear hc1
        go_wp2_with fail
        go_loop [39] (fun i => i = .int .i64 0) (fun _ => 0)
        case atStart => rfl
        case round =>
          subst hrel
          go_wp2_with fail
          go_ret
          exact ⟨rfl, HB1.out⟩
      · have hne : ¬ 3 = l := by omega
        have hsub : ((3 - l : Nat) : Int) = 3 - (l : Int) := by omega
        have hc2 : Hid (chkL [] ((three A B C).drop (l + 0)) = c) := hc1
        clear hc1
        go_wp2_with fail
        go_loop [39] (fun i => ∃ j : Nat, i = .int .i64 (j : Int) ∧ l + j ≤ 3 ∧ Hid (chkL [] ((three A B C).drop (l + j)) = c)) (fun i => 3 - (intOf i).toNat)
        case atStart => exact ⟨0, rfl, by omega, hc2⟩
        case round =>
          clear hc2
          obtain ⟨j, rfl, hj, HC⟩ := hrel
          by_cases hlt : l + j < 3
          · have hjl : (j : Int) < ((3 - l : Nat) : Int) := by omega
            have hx := hcl.out (l + j) hlt
            have hd3 : (three A B C).drop (l + j) = (three A B C).getD (l + j) 0 :: (three A B C).drop (l + j + 1) := drop_at _ 0 _ (by simp [three]; omega)
            obtain ⟨n, hn⟩ : ∃ n, (three A B C).getD (l + j) 0 = n := ⟨_, rfl⟩
            rw [hn] at hx hd3
            have hc1 := HC.out
            rw [hd3] at hc1
            clear hn hd3 HC
            by_cases h0 : n = 0
            · subst h0
              have HC1 : Hid (chkL [] ((three A B C).drop (l + (j + 1))) = c) := Lib.hid (by rw [← hc1]; simp [chkL, Nat.add_assoc])
              clear hc1
              go_wp2_with fail
              go_round
              case rel => exact ⟨j + 1, by go_num, by omega, HC1⟩
              case measure => simp [intOf]; omega
            · have h0b : (n == 0) = false := by simpa using h0
              have h0n : (n != 0) = true := by simpa using h0
              have h4 : c = 4 := by rw [← hc1]; simp [chkL, h0]
              subst h4
              clear hc1
              go_wp2_with fail
              go_ret
              exact ⟨rfl, HB1.out⟩
          · have hjl : ¬ (j : Int) < ((3 - l : Nat) : Int) := by omega
            have hc0 : c = 0 := by rw [← HC.out, List.drop_eq_nil_of_le (by simp [three]; omega)]; rfl
            subst hc0
            clear HC
            go_wp2_with fail
            go_ret
            exact ⟨rfl, HB1.out⟩
end Go.Proofs.Ytdneblbaofhehaa.ins
