/- The longest row: the program's and the document's (layer 31). -/
import Derived.Test.YtciojgkgfhpaaaaRhG
namespace Go.Proofs.Ytciojgkgfhpaaaa.rh
open Go.ChangeShapes Go.WideShapes Go.ChangeAt Go.RowKit
set_option linter.unusedVariables false
set_option linter.unusedSimpArgs false
/-- Block S is N whole numbers. -/
def NR (w : World) (S N : Nat) (f : Nat → Nat) : Prop := w.rowIs S 3 N (fun i => .int .i64 ((f i : Nat) : Int))
theorem NR.below {w w' : World} {S N : Nat} {f : Nat → Nat} (h : NR w S N f) (hb : Below w.heap.size w w') : NR w' S N f :=
  h.of_block (hb.block S h.lt)
theorem NR.set {w : World} {S N : Nat} {f : Nat → Nat} (h : NR w S N f) (i x : Nat) : NR (w.setCell ⟨S, i, none⟩ (.int .i64 ((x : Nat) : Int))) S N (fun j => if j = i then x else f j) :=
  (World.rowIs.set h i _).congr fun j hj => by dsimp only; split <;> rfl
theorem NR.congr {w : World} {S N : Nat} {f g : Nat → Nat} (h : NR w S N f) (e : ∀ i, i < N → f i = g i) : NR w S N g :=
  World.rowIs.congr h fun i hi => by rw [e i hi]
theorem NR.at {w : World} {S N : Nat} {f : Nat → Nat} (h : NR w S N f) (i x : Nat) (hi : i < N) (hx : f i = x) : w.cell? ⟨S, i, none⟩ = some (.int .i64 (x : Int)) := by
  rw [World.rowIs.cell h hi, hx]
def intsObj (n : Nat) : Obj := .cells (madeCells #[.int .i64 0] n) 3
theorem mk_ints (n : Nat) (hn : n ≤ 2000) (w : World) : (Instr.makeSlice 41 (.int .i64 (n : Int)) (.int .i64 (n : Int))).run Try.prog w = .ok (.slice (some ⟨w.heap.size, 0, none⟩) n n) (w.alloc (intsObj n)) :=
  run_make_row' _ _ (.int .i64 0) 8 Try.underlying41 info3 rfl .i64 .i64 n (by omega) (by omega) w
theorem made_ints (n : Nat) (w : World) : NR (w.alloc (intsObj n)) w.heap.size n (fun _ => 0) := World.rowIs_made w (.int .i64 0) n 3
def LF (L : List (List Int)) (k j i : Nat) : Nat := if i < k then ht L i else if i = k then mx ((L.getD k []).take j) (ht L) else 0
theorem lf_next {L : List (List Int)} (hv : Valid L) {k m i : Nat} (hm : (L.getD k []).length = m) : (if i = k then LF L k m k + 1 else LF L k m i) = LF L (k + 1) 0 i := by
  unfold LF
  by_cases e : i = k
  · subst e
    rw [if_pos rfl, if_neg (Nat.lt_irrefl _), if_pos rfl, if_pos (by omega), ht_unf hv, List.take_of_length_le (by omega)]
    omega
  · rw [if_neg e]
    by_cases h : i < k
    · rw [if_pos h, if_pos (by omega)]
    · rw [if_neg h, if_neg e, if_neg (by omega)]
      split
      · simp [mx]
      · rfl
theorem lf_step {L : List (List Int)} {k j a i : Nat} (hj : j < (L.getD k []).length) (ha : (L.getD k []).getD j 0 = (a : Int)) (hak : a < k) : (if i = k then max (LF L k j k) (LF L k j a) else LF L k j i) = LF L k (j + 1) i := by
  unfold LF
  by_cases e : i = k
  · subst e
    rw [if_pos rfl, if_neg (Nat.lt_irrefl _), if_pos rfl, if_pos hak, if_neg (Nat.lt_irrefl _), if_pos rfl, mx_take _ _ _ hj, ha]
    rfl
  · rw [if_neg e]
    by_cases h : i < k
    · rw [if_pos h, if_pos h]
    · rw [if_neg h, if_neg e, if_neg h, if_neg e]
theorem lf_le {L : List (List Int)} (hv : Valid L) {k j i : Nat} : LF L k j i ≤ k := by
  unfold LF
  split
  · have := ht_le hv i; omega
  · split
    · rcases mx_mem ((L.getD k []).take j) (ht L) with h | ⟨a, ha, h⟩
      · omega
      · have h1 := hv k a (List.mem_of_mem_take ha)
        have h2 := ht_le hv a.toNat
        omega
    · omega
theorem max_int (m v : Nat) : (if (m : Int) < (v : Int) then (v : Int) else (m : Int)) = ((max m v : Nat) : Int) := by
  split <;> omega
theorem longest_bad (a : Option Addr) (n cap : Nat) (L : List (List Int)) (c : Int) (w : World) (h : MV w (.slice a n cap) L) (hc : ck L = c) (h0 : c = 9 ∨ c = 3) :
    Calls Try.prog 12 #[.slice a n cap] w fun e w' => e = .returned (.tuple #[.int .i64 0, .int .i64 c]) ∧ w = w' := by
  have C := Lib.hid (check_of a n cap L c w h hc)
  clear h hc
  rcases h0 with rfl | rfl
  all_goals
    go_enter Try.func12, Try.ntmps12
    go_wp2_with (first | (go_at_call 21; refine C.out.mono ?_; rintro e w1 ⟨rfl, rfl⟩))
    go_ret2
    exact ⟨rfl, rfl⟩
def LPost (w : World) (x : Nat) (e : Ending) (w' : World) : Prop := e = .returned (.tuple #[.int .i64 (x : Int), .int .i64 0]) ∧ Below w.heap.size w w'
set_option maxRecDepth 20000 in
set_option maxHeartbeats 2000000 in
theorem longest_of (a : Option Addr) (n cap : Nat) (L : List (List Int)) (w : World) (h : MV w (.slice a n cap) L) (hc : ck L = 0) :
    Calls Try.prog 12 #[.slice a n cap] w (LPost w (tp L n)) := by
  obtain ⟨hnl, hnc, hcm⟩ := h.len
  have hn : n ≤ 1000 := by have := ck_cases L; omega
  have hV : Valid L := valid_of (by have := ck_cases L; rcases this with h | h | h; omega; omega; exact h.2.2)
  have HVa := Lib.hid hV
  have C := Lib.hid (check_of a n cap L 0 w h hc)
  have H := Lib.hid h
  have HN := Lib.hid hnl
  have hmk := mk_ints n (by omega)
  obtain ⟨S, hS⟩ : ∃ S, w.heap.size = S := ⟨_, rfl⟩
  have HS := Lib.hid hS
  obtain ⟨W0, hW0⟩ : ∃ W0, w.alloc (intsObj n) = W0 := ⟨_, rfl⟩
  have hr0 : Hid (NR W0 S n (LF L 0 0)) := Lib.hid (by
    rw [← hW0, ← hS]
    refine (made_ints n w).congr fun i _ => ?_
    unfold LF
    rw [if_neg (by omega)]
    split
    · simp [mx]
    · rfl)
  have hB0 : Hid (Below w.heap.size w W0) := Lib.hid (by rw [← hW0]; go_grown)
  have HW0 := Lib.hid hW0
  clear h hc hV hcm hnl hS hW0
  go_enter Try.func12, Try.ntmps12
  go_wp2_with (first | (go_at_call 21; refine C.out.mono ?_; rintro e w1 ⟨rfl, rfl⟩))
  rw [HW0.out, HS.out]
  go_loopw [5, 21] (fun m i wr => ∃ (k : Nat), k ≤ n ∧ m = .int .i64 ((tp L k : Nat) : Int) ∧ i = .int .i64 (k : Int) ∧ Hid (NR wr S n (LF L k 0)) ∧ Hid (Below w.heap.size w wr)) (fun _ i _ => n - (intOf i).toNat)
  case atStart => exact ⟨0, by omega, rfl, rfl, hr0, hB0⟩
  case round =>
    clear hr0 hB0 C hmk HW0
    obtain ⟨k, hk, rfl, rfl, HR, HB⟩ := hrel
    obtain ⟨tk, htk⟩ : ∃ tk, tp L k = tk := ⟨_, rfl⟩
    rw [htk]
    have HTK := Lib.hid htk
    clear htk
    by_cases hlt : k < n
    · obtain ⟨b, o, ai, ci, rfl, hbl, hcl, hv⟩ := (H.out.below HB.out).row k hlt
      obtain ⟨_, hm1, hm2⟩ := hv.len
      obtain ⟨b', o', ai', ci', eb, hbl', hcl', hv'⟩ := H.out.row k hlt
      have hcl2 := (HB.out.cell (p := ⟨b', o' + k, none⟩) hbl').trans hcl'
      cases eb
      rw [hcl] at hcl2
      cases hcl2
      unfold maxLen at hm2
      have HV := Lib.hid hv'
      obtain ⟨m, hm⟩ : ∃ m, (L.getD k []).length = m := ⟨_, rfl⟩
      rw [hm] at hcl HV hm1
      have HM := Lib.hid hm
      clear hv hv' hm hcl' hbl'
      go_wp2_with fail
      go_loopw [28] (fun i wi => ∃ (j : Nat), j ≤ m ∧ i = .int .i64 (j : Int) ∧ Hid (NR wi S n (LF L k j)) ∧ Hid (Below w.heap.size w wi)) (fun i _ => m - (intOf i).toNat)
      case atStart => exact ⟨0, by omega, rfl, HR, HB⟩
      case round =>
        clear HR HB hcl
        obtain ⟨j, hj, rfl, HR, HB⟩ := hrel
        have hfz := World.rowIs.frozen HR.out k
        obtain ⟨x, hx⟩ : ∃ x, LF L k j k = x := ⟨_, rfl⟩
        have hxl : x ≤ k := by rw [← hx]; exact lf_le HVa.out
        have hcx := HR.out.at k x hlt hx
        have HX := Lib.hid hx
        clear hx
        by_cases hjl : j < m
        · obtain ⟨b2, o2, rfl, hbl2, hcy⟩ := (HV.out.below HB.out).at j hjl
          obtain ⟨y, hy⟩ : ∃ y, (L.getD k []).getD j 0 = y := ⟨_, rfl⟩
          rw [hy] at hcy
          have hyv := HVa.out k y (by rw [← hy]; exact getD_mem (by rw [HM.out]; exact hjl))
          obtain ⟨a, rfl⟩ : ∃ a : Nat, y = (a : Int) := ⟨y.toNat, by omega⟩
          have hak : a < k := by omega
          have han : a < n := by omega
          have han2 : (a : Int) < (n : Int) := by omega
          have han3 : (0 : Int) ≤ (a : Int) := by omega
          obtain ⟨v, hv⟩ : ∃ v, LF L k j a = v := ⟨_, rfl⟩
          have hcv := HR.out.at a v han hv
          obtain ⟨r, hr⟩ : ∃ r, max x v = r := ⟨_, rfl⟩
          have hmax : (if x < v then (v : Int) else (x : Int)) = (r : Int) := by rw [← hr, ← max_int]; simp
          have HE : Hid (∀ i, (if i = k then r else LF L k j i) = LF L k (j + 1) i) := Lib.hid fun i => by
            rw [← lf_step (by rw [HM.out]; exact hjl) hy hak, HX.out, hv, hr]
          clear hv hr hy
          go_wp2_with fail
          go_region
          go_wp2_with fail
          have h5 := ((HR.out.set k r).congr fun i _ => HE.out i).below (w' := (wr.setCell ⟨S, k, none⟩ (.int .i64 (r : Int))).drew) (by go_grown)
          have hb5 : Below w.heap.size w (wr.setCell ⟨S, k, none⟩ (.int .i64 (r : Int))).drew := (HB.out.setCell (p := ⟨S, k, none⟩) (by rw [HS.out]; exact Nat.le_refl _) _).drew
          have H5 := Lib.hid h5
          have HB5 := Lib.hid hb5
          go_roundw
          case rel => exact ⟨j + 1, by omega, by go_num, H5, HB5⟩
          case measure => simp [intOf]; omega
        · obtain rfl : j = m := by omega
          have HE : Hid (∀ i, (if i = k then x + 1 else LF L k j i) = LF L (k + 1) 0 i) := Lib.hid fun i => by
            rw [← lf_next HVa.out HM.out, HX.out]
          have hT : tp L (k + 1) = max (tp L k) (ht L k) := rfl
          have hE2 : ht L k = x + 1 := by
            have := HE.out k
            rw [if_pos rfl] at this
            rw [this]; unfold LF; rw [if_pos (by omega)]
          rw [hE2, HTK.out] at hT
          obtain ⟨r, hr⟩ : ∃ r, max tk (x + 1) = r := ⟨_, rfl⟩
          rw [hr] at hT
          have hmax : (if (tk : Int) < ((x : Int) + 1) then ((x : Int) + 1) else (tk : Int)) = (r : Int) := by
            have := max_int tk (x + 1)
            rw [hr] at this
            rw [← this]; rfl
          have hmax2 : (if tk < x + 1 then ((x : Int) + 1) else (tk : Int)) = (r : Int) := by rw [← hmax]; split <;> split <;> omega
          have HTT := Lib.hid hT
          clear hT hE2 hr
          go_wp2_with fail
          have H5 := Lib.hid ((HR.out.set k (x + 1)).congr fun i _ => HE.out i)
          have HB5 := Lib.hid (HB.out.setCell (p := ⟨S, k, none⟩) (by rw [HS.out]; exact Nat.le_refl _) (.int .i64 ((x + 1 : Nat) : Int)))
          go_roundw
          case rel => exact ⟨k + 1, by omega, by rw [HTT.out], by go_num, H5, HB5⟩
          case measure => simp [intOf]; omega
    · obtain rfl : k = n := by omega
      go_wp2_with fail
      go_ret2
      exact ⟨by rw [HTK.out]; rfl, HB.out⟩
end Go.Proofs.Ytciojgkgfhpaaaa.rh
