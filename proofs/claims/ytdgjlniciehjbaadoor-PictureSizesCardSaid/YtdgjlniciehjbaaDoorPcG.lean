/- Rows read (layer 38): pure; a cell, by the program. -/
import Derived.Test.YtdgjlniciehjbaaDoorPcF
namespace Go.Proofs.YtdgjlniciehjbaaDoor.pc
open Go.ChangeShapes Go.WideShapes Go.ChangeAt Go.RowKit
open Go.Proofs.YtdgjlniciehjbaaDoor.gr (C2 d2 chkE Rts Rt chkE_rts PM enC recC RV.two rcheck_v check_v cel2)
open Go.Proofs.YtdgjlniciehjbaaDoor.st Go.Proofs.YtdgjlniciehjbaaDoor.wd
set_option linter.unusedVariables false
set_option linter.unusedSimpArgs false
def okC (p : Int × Bool) (b : Bool) : Option C2 := if p.2 then some (p.1, b) else none
/-- the cell that a word is. -/
def rdC (s : List UInt8) (first : Bool) : Option C2 := match s with
  | [] => none
  | c :: t => if c.toNat = 62 then okC (numV t) true else if c.toNat = 45 then okC (numV t) false else if first then okC (numV (c :: t)) false else none
def rdRow (W : List (List UInt8)) : Nat → Option (List C2)
  | 0 => some []
  | n + 1 => match rdRow W n with
    | none => none
    | some l => match rdC (W.getD n []) (n == 0) with
      | none => none
      | some c => some (l ++ [c])
def rdN (P : List (List UInt8)) : Nat → Option (List (List C2))
  | 0 => some []
  | n + 1 => match rdN P n with
    | none => none
    | some L => match rdRow (fldV (P.getD n [])) (fldV (P.getD n [])).length with
      | none => none
      | some l => some (L ++ [l])
def rdA (T : List UInt8) : Option (List (List C2)) := rdN (linV T) (linV T).length
def rdE (T : List UInt8) : Int := match rdA T with
  | none => 4
  | some L => chkE L
def rdL (T : List UInt8) : List (List C2) := match rdA T with
  | none => []
  | some L => if chkE L = 0 then L else []
theorem rdRow_len {W : List (List UInt8)} : ∀ n l, rdRow W n = some l → l.length = n
  | 0, l, h => by simp [rdRow] at h; subst h; rfl
  | n + 1, l, h => by
    rw [rdRow] at h
    split at h
    · simp at h
    · rename_i l1 e1
      split at h
      · simp at h
      · simp at h
        subst h
        rw [List.length_append, rdRow_len n l1 e1]
        rfl
theorem rdN_len {P : List (List UInt8)} : ∀ n L, rdN P n = some L → L.length = n
  | 0, l, h => by simp [rdN] at h; subst h; rfl
  | n + 1, l, h => by
    rw [rdN] at h
    split at h
    · simp at h
    · rename_i l1 e1
      split at h
      · simp at h
      · simp at h
        subst h
        rw [List.length_append, rdN_len n l1 e1]
        rfl
theorem rdRow_stay {W : List (List UInt8)} {k : Nat} (h : rdRow W k = none) : ∀ m, k ≤ m → rdRow W m = none := by
  intro m hm
  induction m with
  | zero => obtain rfl : k = 0 := by omega
            exact h
  | succ m ih =>
    rcases Nat.lt_or_ge m k with h1 | h1
    · obtain rfl : k = m + 1 := by omega
      exact h
    · rw [rdRow, ih h1]
theorem rdN_stay {P : List (List UInt8)} {k : Nat} (h : rdN P k = none) : ∀ m, k ≤ m → rdN P m = none := by
  intro m hm
  induction m with
  | zero => obtain rfl : k = 0 := by omega
            exact h
  | succ m ih =>
    rcases Nat.lt_or_ge m k with h1 | h1
    · obtain rfl : k = m + 1 := by omega
      exact h
    · rw [rdN, ih h1]
theorem fld_ne {l : List UInt8} {k : Nat} (h : k < (fldV l).length) : ∃ c t, (fldV l).getD k [] = c :: t := by
  have hm : (fldV l).getD k [] ∈ fldV l := by
    rw [List.getD_eq_getElem?_getD, List.getElem?_eq_getElem h]
    exact List.getElem_mem _
  unfold fldV at hm
  rw [List.mem_filter] at hm
  cases hx : (fldV l).getD k [] with
  | nil =>
    have := hm.2
    unfold fldV at hx
    rw [hx] at this
    simp [ne] at this
  | cons c t => exact ⟨c, t, rfl⟩
theorem two_set {w : World} {b e : Nat} {u v x y : Value} (h : w.heap[b]? = some (.cells #[u, v] e (0, 0))) : ((w.setCell ⟨b, 0, none⟩ x).setCell ⟨b, 1, none⟩ y).heap[b]? = some (.cells #[x, y] e (0, 0)) := by
  have h1 := set_blk w b 0 x h
  have h2 := set_blk (w.setCell ⟨b, 0, none⟩ x) b 1 y h1
  rw [h2]
  simp [Array.set!]
theorem two_below {w : World} {b B : Nat} {x y : Value} (hB : B ≤ b) : Below B w ((w.setCell ⟨b, 0, none⟩ x).setCell ⟨b, 1, none⟩ y) :=
  ((Below.refl B w).setCell (p := ⟨b, 0, none⟩) hB _).setCell (p := ⟨b, 1, none⟩) hB _
set_option maxRecDepth 20000 in
set_option maxHeartbeats 1000000 in
theorem readCell_v (c : UInt8) (t : List UInt8) (f : Bool) (w : World) (hl : (c :: t).length ≤ 1000000) (hN : NM w) :
    Calls Tryd.prog 29 #[.string ⟨(c :: t).toArray⟩, .bool f] w fun e w' => ∃ x b ok, e = .returned (.tuple #[.agg #[.int .i64 x, .bool b], .bool ok]) ∧ rdC (c :: t) f = (if ok then some (x, b) else none) ∧ Below w.heap.size w w' := by
  obtain ⟨P, hP⟩ : ∃ P : Ending → World → Prop, (fun (e : Ending) (w' : World) => ∃ x b ok, e = .returned (.tuple #[.agg #[.int .i64 x, .bool b], .bool ok]) ∧ rdC (c :: t) f = (if ok then some (x, b) else none) ∧ Below w.heap.size w w') = P := ⟨_, rfl⟩
  have HF : Hid (∀ x b ok w', rdC (c :: t) f = (if ok then some (x, b) else none) → Below w.heap.size w w' → P (.returned (.tuple #[.agg #[.int .i64 x, .bool b], .bool ok])) w') := Lib.hid (by rintro x b ok w' h hb; rw [← hP]; exact ⟨x, b, ok, rfl, h, hb⟩)
  rw [hP]
  clear hP
  obtain ⟨W, hW⟩ : ∃ W, w.alloc (.cells #[.int .i64 0, .bool false] 38) = W := ⟨_, rfl⟩
  have hbW : Below w.heap.size w W := by rw [← hW]; exact (Below.refl _ _).alloc (Nat.le_refl _) _
  have hXW : W.heap[w.heap.size]? = some (.cells #[.int .i64 0, .bool false] 38 (0, 0)) := by rw [← hW]; exact heap_new _ _ _
  have HXW := Lib.hid hXW
  have HBW := Lib.hid hbW
  have hfs := str_size (c :: t)
  have hl0 : 0 < (c :: t).length := by simp
  have hat : ∀ h : 0 < (⟨(c :: t).toArray⟩ : ByteArray).size, (⟨(c :: t).toArray⟩ : ByteArray)[0]'h = c := fun h => str_at (c :: t) 0 h
  have hdr := str_drop (c :: t) 1
  have hdr' : (⟨(c :: t).toArray⟩ : ByteArray).extract 1 (c :: t).length = ⟨t.toArray⟩ := by rw [hfs] at hdr; exact hdr
  have hdr2 : (⟨(c :: t).toArray⟩ : ByteArray).extract 1 (⟨(c :: t).toArray⟩ : ByteArray).size = ⟨t.toArray⟩ := hdr
  obtain ⟨S, hS⟩ : ∃ S, c :: t = S := ⟨_, rfl⟩
  have hSl : S.length = t.length + 1 := by rw [← hS]; rfl
  have CT := Lib.hid (num_v t W (by simp at hl; omega) (hN.below hbW))
  have CS := Lib.hid (num_v (c :: t) W hl (hN.below hbW))
  have HD : Hid (rdC (c :: t) f = if c.toNat = 62 then okC (numV t) true else if c.toNat = 45 then okC (numV t) false else if f then okC (numV (c :: t)) false else none) := Lib.hid rfl
  rw [hS] at hfs hat hdr' hdr2 CS HD HF hl ⊢
  obtain ⟨D, hD⟩ : ∃ D, rdC S f = D := ⟨_, rfl⟩
  rw [hD] at HD HF
  obtain ⟨cn, hcn⟩ : ∃ n, c.toNat = n := ⟨_, rfl⟩
  have hcb : cn < 256 := by rw [← hcn]; exact c.toNat_lt
  rw [hcn] at HD
  have h1S : (1 : Int) ≤ (S.length : Int) := by omega
  have h1S' : 1 ≤ S.length := by omega
  have h0S : 0 < S.length := by omega
  have h0SI : (0 : Int) < (S.length : Int) := by omega
  obtain ⟨n1, hn1⟩ : ∃ x, (numV t).1 = x := ⟨_, rfl⟩
  obtain ⟨o1, ho1⟩ : ∃ x, (numV t).2 = x := ⟨_, rfl⟩
  obtain ⟨n2, hn2⟩ : ∃ x, (numV S).1 = x := ⟨_, rfl⟩
  obtain ⟨o2, ho2⟩ : ∃ x, (numV S).2 = x := ⟨_, rfl⟩
  rw [hn1, ho1] at CT
  rw [hn2, ho2] at CS
  unfold okC at HD
  rw [hn1, ho1, hn2, ho2] at HD
  clear hD hS hdr hXW hbW hN hl hl0 hn1 ho1 hn2 ho2 hSl
  by_cases h62 : cn = 62
  · subst h62
    have HD1 : Hid (D = if o1 then some (n1, true) else none) := Lib.hid (by have := HD.out; rw [if_pos rfl] at this; exact this)
    clear HD CS
    go_enter Tryd.func29, Tryd.ntmps29
    go_wp2_with fail
    refine CT.out.mono ?_
    rintro e w1 ⟨rfl, hb1⟩
    have hx1 := kb HXW.out hb1
    have f0 := frz hx1 0
    have f1 := frz hx1 1
    obtain ⟨x0, x1⟩ := cel2 hx1
    have HB1 := Lib.hid (tr3 HBW.out hb1)
    have HX1 := Lib.hid hx1
    clear hb1 hx1 CT
    go_wp2_with fail
    obtain ⟨W9, hW9⟩ : ∃ W9, (w1.setCell ⟨w.heap.size, 0, none⟩ (.int .i64 n1)).setCell ⟨w.heap.size, 1, none⟩ (.bool true) = W9 := ⟨_, rfl⟩
    have hx9 : W9.heap[w.heap.size]? = some (.cells #[.int .i64 n1, .bool true] 38 (0, 0)) := by rw [← hW9]; exact two_set HX1.out
    have hb9 : Below w.heap.size w W9 := by rw [← hW9]; exact HB1.out.trans (two_below (Nat.le_refl _))
    obtain ⟨y0, y1⟩ := cel2 hx9
    rw [hW9]
    refine bodyPost_ret (v := .tuple #[.agg #[.int .i64 n1, .bool true], .bool o1]) ?_ rfl (HF.out _ _ _ _ HD1.out hb9)
    rw [results_cell_tmp rfl]
    go_simp
  have h62b : ((cn : Int) == 62) = false := by simp; omega
  by_cases h45 : cn = 45
  · subst h45
    have HD1 : Hid (D = if o1 then some (n1, false) else none) := Lib.hid (by have := HD.out; rw [if_neg (by decide), if_pos rfl] at this; exact this)
    clear HD CS
    go_enter Tryd.func29, Tryd.ntmps29
    go_wp2_with fail
    refine CT.out.mono ?_
    rintro e w1 ⟨rfl, hb1⟩
    have hx1 := kb HXW.out hb1
    have f0 := frz hx1 0
    have f1 := frz hx1 1
    obtain ⟨x0, x1⟩ := cel2 hx1
    have HB1 := Lib.hid (tr3 HBW.out hb1)
    have HX1 := Lib.hid hx1
    clear hb1 hx1 CT
    go_wp2_with fail
    obtain ⟨W9, hW9⟩ : ∃ W9, (w1.setCell ⟨w.heap.size, 0, none⟩ (.int .i64 n1)).setCell ⟨w.heap.size, 1, none⟩ (.bool false) = W9 := ⟨_, rfl⟩
    have hx9 : W9.heap[w.heap.size]? = some (.cells #[.int .i64 n1, .bool false] 38 (0, 0)) := by rw [← hW9]; exact two_set HX1.out
    have hb9 : Below w.heap.size w W9 := by rw [← hW9]; exact HB1.out.trans (two_below (Nat.le_refl _))
    obtain ⟨y0, y1⟩ := cel2 hx9
    rw [hW9]
    refine bodyPost_ret (v := .tuple #[.agg #[.int .i64 n1, .bool false], .bool o1]) ?_ rfl (HF.out _ _ _ _ HD1.out hb9)
    rw [results_cell_tmp rfl]
    go_simp
  have h45b : ((cn : Int) == 45) = false := by simp; omega
  cases f with
  | true =>
    have HD1 : Hid (D = if o2 then some (n2, false) else none) := Lib.hid (by have := HD.out; rw [if_neg h62, if_neg h45] at this; simpa using this)
    clear HD CT
    go_enter Tryd.func29, Tryd.ntmps29
    go_wp2_with fail
    refine CS.out.mono ?_
    rintro e w1 ⟨rfl, hb1⟩
    have hx1 := kb HXW.out hb1
    have f0 := frz hx1 0
    have f1 := frz hx1 1
    obtain ⟨x0, x1⟩ := cel2 hx1
    have HB1 := Lib.hid (tr3 HBW.out hb1)
    have HX1 := Lib.hid hx1
    clear hb1 hx1 CS
    go_wp2_with fail
    obtain ⟨W9, hW9⟩ : ∃ W9, (w1.setCell ⟨w.heap.size, 0, none⟩ (.int .i64 n2)).setCell ⟨w.heap.size, 1, none⟩ (.bool false) = W9 := ⟨_, rfl⟩
    have hx9 : W9.heap[w.heap.size]? = some (.cells #[.int .i64 n2, .bool false] 38 (0, 0)) := by rw [← hW9]; exact two_set HX1.out
    have hb9 : Below w.heap.size w W9 := by rw [← hW9]; exact HB1.out.trans (two_below (Nat.le_refl _))
    obtain ⟨y0, y1⟩ := cel2 hx9
    rw [hW9]
    refine bodyPost_ret (v := .tuple #[.agg #[.int .i64 n2, .bool false], .bool o2]) ?_ rfl (HF.out _ _ _ _ HD1.out hb9)
    rw [results_cell_tmp rfl]
    go_simp
  | false =>
    have HD1 : Hid (D = if false then some ((0 : Int), false) else none) := Lib.hid (by have := HD.out; rw [if_neg h62, if_neg h45] at this; simpa using this)
    clear HD CT CS
    have f0 := frz HXW.out 0
    have f1 := frz HXW.out 1
    obtain ⟨x0, x1⟩ := cel2 HXW.out
    have HX1 := HXW
    have HB1 := HBW
    go_enter Tryd.func29, Tryd.ntmps29
    go_wp2_with fail
    obtain ⟨W9, hW9⟩ : ∃ W9, (W.setCell ⟨w.heap.size, 0, none⟩ (.int .i64 0)).setCell ⟨w.heap.size, 1, none⟩ (.bool false) = W9 := ⟨_, rfl⟩
    have hx9 : W9.heap[w.heap.size]? = some (.cells #[.int .i64 0, .bool false] 38 (0, 0)) := by rw [← hW9]; exact two_set HX1.out
    have hb9 : Below w.heap.size w W9 := by rw [← hW9]; exact HB1.out.trans (two_below (Nat.le_refl _))
    obtain ⟨y0, y1⟩ := cel2 hx9
    rw [hW9]
    refine bodyPost_ret (v := .tuple #[.agg #[.int .i64 0, .bool false], .bool false]) ?_ rfl (HF.out _ _ _ _ HD1.out hb9)
    rw [results_cell_tmp rfl]
    go_simp
end Go.Proofs.YtdgjlniciehjbaaDoor.pc
