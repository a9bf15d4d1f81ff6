/- The contracts of layer 20 (throttle), of the plan of its laws. -/
import Derived.Test.YtemboonjikccnabRing20
import Derived.StillTailTactics
import Derived.Deep.RegionHeld3
namespace Go.Proofs.Ytemboonjikccnab
open Go.ChangeShapes Go.WideShapes Go.ChangeAt Go.RowKit
set_option linter.unusedVariables false
set_option linter.unusedSimpArgs false
def NapC (id sr it nx : Int) (lp : Bool) : Array Value := #[.int .i64 1, .int .i64 2, .int .i64 2, .int .i64 2, .int .i64 id, .int .i64 sr, .int .i64 it, .int .i64 nx, .bool lp]
def WakeC (id sr it nx : Int) (lp : Bool) : Array Value := #[.int .i64 1, .int .i64 2, .int .i64 2, .int .i64 2, .int .i64 id, .int .i64 sr, .int .i64 it, .int .i64 nx, .bool lp, .bool false]
def NapAt (w : World) (B : Nat) (id sr it nx : Int) (lp : Bool) : Prop := w.heap[B]? = some (.cells (NapC id sr it nx lp) 110 (0, 0))
def WakeAt (w : World) (B : Nat) (id sr it nx : Int) (lp : Bool) : Prop := w.heap[B]? = some (.cells (WakeC id sr it nx lp) 112 (0, 0))
/-- Behind w only the blocks g and B were written. -/
def Keep2 (g B : Nat) (w w' : World) : Prop := w.heap.size ≤ w'.heap.size ∧ ∀ C, C < w.heap.size → C ≠ g → C ≠ B → w'.heap[C]? = w.heap[C]?
theorem Keep.two {g : Nat} {w w' : World} (h : Keep g w w') (B : Nat) : Keep2 g B w w' := ⟨h.1, fun C hC hg _ => h.2 C hC hg⟩
theorem Keep2.trans {g B : Nat} {w w1 w2 : World} (h : Keep2 g B w w1) (h' : Keep2 g B w1 w2) : Keep2 g B w w2 :=
  ⟨Nat.le_trans h.1 h'.1, fun C hC hg hB => (h'.2 C (Nat.lt_of_lt_of_le hC h.1) hg hB).trans (h.2 C hC hg hB)⟩
theorem Keep2.set (g B i : Nat) (w : World) (v : Value) : Keep2 g B w (w.setCell ⟨B, i, none⟩ v) := by
  refine ⟨by show w.heap.size ≤ (w.heap.modify B _).size; rw [Array.size_modify]; exact Nat.le_refl _, fun C _ _ hB => ?_⟩
  show (w.heap.modify B _)[C]? = _
  rw [Array.getElem?_modify, if_neg (fun e => hB e.symm)]
theorem obj_set {w : World} {B i t : Nat} {a : Array Value} (v : Value) (h : w.heap[B]? = some (.cells a t (0, 0))) : (w.setCell ⟨B, i, none⟩ v).heap[B]? = some (.cells (a.setIfInBounds i v) t (0, 0)) := by
  obtain ⟨hlt, hk⟩ := Array.getElem?_eq_some_iff.1 h
  show (w.heap.modify B _)[B]? = _
  rw [Array.getElem?_eq_getElem (by rw [Array.size_modify]; exact hlt), Array.getElem_modify_self, hk]
  simp
theorem J.obj_set {w0 w : World} {S g B i t : Nat} {xs : List Int} {a : Array Value} {v : Value} (h : J w0 w S g xs) (ho : w.heap[B]? = some (.cells a t (0, 0))) (hg : B ≠ g) (hS : B ≠ S) (h0 : w0.heap.size ≤ B) : J w0 (w.setCell ⟨B, i, none⟩ v) S g xs :=
  h.own_set ⟨ho, hg, hS, h0⟩ rfl
theorem NapAt.cells {w : World} {B : Nat} {id sr it nx : Int} {lp : Bool} (h : NapAt w B id sr it nx lp) : w.cell? ⟨B, 0, none⟩ = some (.int .i64 1) ∧ w.cell? ⟨B, 1, none⟩ = some (.int .i64 2) ∧ w.cell? ⟨B, 2, none⟩ = some (.int .i64 2) ∧ w.cell? ⟨B, 3, none⟩ = some (.int .i64 2) ∧ w.cell? ⟨B, 4, none⟩ = some (.int .i64 id) ∧ w.cell? ⟨B, 5, none⟩ = some (.int .i64 sr) ∧ w.cell? ⟨B, 6, none⟩ = some (.int .i64 it) ∧ w.cell? ⟨B, 7, none⟩ = some (.int .i64 nx) ∧ w.cell? ⟨B, 8, none⟩ = some (.bool lp) ∧ (∀ i, w.frozen? ⟨B, i, none⟩ = false) := by
  unfold NapAt at h
  refine ⟨?_, ?_, ?_, ?_, ?_, ?_, ?_, ?_, ?_, fun i => by simp [World.frozen?, h]⟩ <;> simp [World.cell?, h, NapC]
theorem seven_Nap {w : World} {B : Nat} {id sr it nx : Int} {lp : Bool} (v : Value) (h : NapAt w B id sr it nx lp) : (w.setCell ⟨B, 8, none⟩ v).cell? ⟨B, 0, none⟩ = some (.int .i64 1) ∧ (w.setCell ⟨B, 8, none⟩ v).cell? ⟨B, 1, none⟩ = some (.int .i64 2) ∧ (w.setCell ⟨B, 8, none⟩ v).cell? ⟨B, 2, none⟩ = some (.int .i64 2) ∧ (w.setCell ⟨B, 8, none⟩ v).cell? ⟨B, 3, none⟩ = some (.int .i64 2) ∧ (w.setCell ⟨B, 8, none⟩ v).cell? ⟨B, 4, none⟩ = some (.int .i64 id) ∧ (w.setCell ⟨B, 8, none⟩ v).cell? ⟨B, 5, none⟩ = some (.int .i64 sr) ∧ (w.setCell ⟨B, 8, none⟩ v).cell? ⟨B, 6, none⟩ = some (.int .i64 it) := by
  have := obj_set (i := 8) v h
  refine ⟨?_, ?_, ?_, ?_, ?_, ?_, ?_⟩ <;> simp [World.cell?, this, NapC]
theorem look_Nap (B : Nat) (id sr it nx : Int) (lp b : Bool) (w : World) (h : NapAt w B id sr it nx lp) : Calls Try.prog 66 #[.pointer (some ⟨B, 0, none⟩), .bool b] w fun e w' => e = .returned (.tuple #[]) ∧ NapAt w' B id sr it (if b then 2 else 3) lp ∧ ∃ v1 v2, (w' = w.setCell ⟨B, 7, none⟩ v1 ∨ w' = (w.setCell ⟨B, 7, none⟩ v1).setCell ⟨B, 7, none⟩ v2) := by
  obtain ⟨c0, c1, c2, c3, c4, c5, c6, c7, c8, cf⟩ := h.cells
  have f7 := cf 7
  have hH := Lib.hid h
  clear h cf
  cases b
  · go_enter Try.func66, Try.ntmps66
    go_wp2_with fail
    go_end0
    exact ⟨rfl, obj_set _ hH.out, _, .nilFunc, .inl rfl⟩
  · have d7 : (w.setCell ⟨B, 7, none⟩ (.int .i64 3)).cell? ⟨B, 7, none⟩ = some (.int .i64 3) := by
      have := obj_set (i := 7) (.int .i64 3) hH.out
      simp [World.cell?, this, NapC]
    go_enter Try.func66, Try.ntmps66
    go_wp2_with fail
    go_end0
    exact ⟨rfl, obj_set _ (obj_set _ hH.out), _, _, .inr rfl⟩
set_option maxHeartbeats 1000000 in
set_option maxRecDepth 20000 in
theorem nap_tells (S g B k : Nat) (xs : List Int) (id sr it F q : Int) (lp : Bool) (w0 w : World) (h : J w0 w S g xs) (ho : NapAt w B id sr it 0 lp) (hg : Hid (B ≠ g)) (hS : Hid (B ≠ S)) (h0 : Hid (w0.heap.size ≤ B)) (h1 : 1 ≤ id) (h2 : id ≤ 2) (hF : Hid ((1 : Int) * (4 + 2) + (id - 1) * (2 + (2 + 1) * 4) = F)) (hn : 0 ≤ it) (hq : Hid (it.tmod (2 + 1) = q)) (hat : k < xs.length) (hm : xs.length ≤ 1048576) (hk : Hid (F + 1 = (k : Int))) :
    Calls Try.prog 23 #[.pointer (some ⟨B, 0, none⟩), .pointer (some ⟨S, 0, none⟩)] w fun e w' => e = .returned (.bool false) ∧ J w0 w' S g (xs.set k (tOf sr it 0)) ∧ NapAt w' B id sr it 1 lp ∧ Keep2 g B w w' := by
  obtain ⟨c0, c1, c2, c3, c4, c5, c6, c7, c8, cf⟩ := ho.cells
  have f7 := cf 7
  have f8 := cf 8
  have hO := Lib.hid ho
  clear ho cf
  go_enter Try.func23, Try.ntmps23
  go_wp2_with fail
  go_still_tail 11, (by kernel_rfl)
  change wpList _ _ _ _ _ w.drew
  have hdr := h.below' (w' := w.drew) (by go_grown)
  go_wp2_with fail
  refine (rsleep_j S g k xs id sr it F q w0 _ hdr h1 h2 hF hk hat hm).mono ?_
  rintro e w1 ⟨rfl, hj, hk0⟩
  have hk1 : Keep g w w1 := hk0
  clear hk0
  have ho1 : NapAt w1 B id sr it 0 lp := hk1.block hO.out hg.out
  obtain ⟨c0, c1, c2, c3, c4, c5, c6, c7, c8, cf⟩ := ho1.cells
  have f7 := cf 7
  have f8 := cf 8
  have hO1 := Lib.hid ho1
  clear ho1 cf
  have d7 : (w1.setCell ⟨B, 7, none⟩ (.int .i64 1)).cell? ⟨B, 7, none⟩ = some (.int .i64 1) := by
    have := obj_set (i := 7) (.int .i64 1) hO1.out
    simp [World.cell?, this, NapC]
  go_wp2_with fail
  go_ret
  exact ⟨rfl, hj.obj_set hO1.out hg.out hS.out h0.out, obj_set _ hO1.out, (hk1.two B).trans (Keep2.set g B 7 _ _)⟩
set_option maxHeartbeats 1000000 in
set_option maxRecDepth 20000 in
theorem nap_looks_yes (S g B k : Nat) (xs : List Int) (id sr it F q : Int) (lp : Bool) (w0 w : World) (h : J w0 w S g xs) (ho : NapAt w B id sr it 1 lp) (hg : Hid (B ≠ g)) (hS : Hid (B ≠ S)) (h0 : Hid (w0.heap.size ≤ B)) (h1 : 1 ≤ id) (h2 : id ≤ 2) (hF : Hid ((1 : Int) * (4 + 2) + (id - 1) * (2 + (2 + 1) * 4) = F)) (hn : 0 ≤ it) (hq : Hid (it.tmod (2 + 1) = q)) (hat : k < xs.length) (hm : xs.length ≤ 1048576) (hk : Hid (F + 2 + q * 4 + 3 = (k : Int))) (x : Int) (hx : Hid (xs.getD k 0 = x)) (hqb : Hid ((x == tOf sr it 0) = true)) :
    Calls Try.prog 23 #[.pointer (some ⟨B, 0, none⟩), .pointer (some ⟨S, 0, none⟩)] w fun e w' => e = .returned (.bool false) ∧ J w0 w' S g (xs) ∧ NapAt w' B id sr it 2 lp ∧ Keep2 g B w w' := by
  obtain ⟨c0, c1, c2, c3, c4, c5, c6, c7, c8, cf⟩ := ho.cells
  have f7 := cf 7
  have f8 := cf 8
  have hO := Lib.hid ho
  clear ho cf
  go_enter Try.func23, Try.ntmps23
  go_wp2_with fail
  have hdr := h.below' (w' := w.drew) (by go_grown)
  go_region_held3 (fun w' => w'.cell? ⟨B, 0, none⟩ = some (.int .i64 1) ∧ w'.cell? ⟨B, 1, none⟩ = some (.int .i64 2) ∧ w'.cell? ⟨B, 2, none⟩ = some (.int .i64 2) ∧ w'.cell? ⟨B, 3, none⟩ = some (.int .i64 2) ∧ w'.cell? ⟨B, 4, none⟩ = some (.int .i64 id) ∧ w'.cell? ⟨B, 5, none⟩ = some (.int .i64 sr) ∧ w'.cell? ⟨B, 6, none⟩ = some (.int .i64 it)) (first | (with_reducible assumption) | exact ⟨hcs.1, hcs.2.1, hcs.2.2.1, hcs.2.2.2.1, hcs.2.2.2.2.1, hcs.2.2.2.2.2.1, hcs.2.2.2.2.2.2.1⟩ | exact ⟨c0, c1, c2, c3, c4, c5, c6⟩)
    (first | (go_at_call 22; refine (rended_j S g k xs id sr it F q x true w0 _ hdr h1 h2 hF hn hq hk hx hqb hat hm).mono ?_; rintro e w1 ⟨rfl, hj, hk0⟩; have hk1 : Keep g w w1 := hk0; have ho1 : NapAt w1 B id sr it 1 lp := hk1.block hO.out hg.out; have hO1 := Lib.hid ho1; have hcs := ho1.cells) | (go_at_call 66; refine (look_Nap B id sr it 1 lp true _ hO1.out).mono ?_; rintro e w2 ⟨rfl, ho2, v1, v2, hw2⟩; have hcs := ho2.cells))
  have hJ2 : J w0 w2 S g xs ∧ Keep2 g B w w2 := by
    rcases hw2 with rfl | rfl
    · exact ⟨hj.obj_set hO1.out hg.out hS.out h0.out, (hk1.two B).trans (Keep2.set g B 7 _ _)⟩
    · exact ⟨(hj.obj_set hO1.out hg.out hS.out h0.out).obj_set (obj_set _ hO1.out) hg.out hS.out h0.out, ((hk1.two B).trans (Keep2.set g B 7 _ _)).trans (Keep2.set g B 7 _ _)⟩
  clear hw2 c0 c1 c2 c3 c4 c5 c6 c7 c8 hcs
  obtain ⟨c0, c1, c2, c3, c4, c5, c6, c7, c8, cf⟩ := ho2.cells
  have hO2 := Lib.hid ho2
  clear ho2 cf
  simp only [if_true, if_false, Bool.false_eq_true] at c7
  go_wp2_with fail
  go_ret
  exact ⟨rfl, hJ2.1, hO2.out, hJ2.2⟩
set_option maxHeartbeats 1000000 in
set_option maxRecDepth 20000 in
theorem nap_looks_no (S g B k : Nat) (xs : List Int) (id sr it F q : Int) (lp : Bool) (w0 w : World) (h : J w0 w S g xs) (ho : NapAt w B id sr it 1 lp) (hg : Hid (B ≠ g)) (hS : Hid (B ≠ S)) (h0 : Hid (w0.heap.size ≤ B)) (h1 : 1 ≤ id) (h2 : id ≤ 2) (hF : Hid ((1 : Int) * (4 + 2) + (id - 1) * (2 + (2 + 1) * 4) = F)) (hn : 0 ≤ it) (hq : Hid (it.tmod (2 + 1) = q)) (hat : k < xs.length) (hm : xs.length ≤ 1048576) (hk : Hid (F + 2 + q * 4 + 3 = (k : Int))) (x : Int) (hx : Hid (xs.getD k 0 = x)) (hqb : Hid ((x == tOf sr it 0) = false)) :
    Calls Try.prog 23 #[.pointer (some ⟨B, 0, none⟩), .pointer (some ⟨S, 0, none⟩)] w fun e w' => e = .returned (.bool true) ∧ J w0 w' S g (xs) ∧ NapAt w' B id sr it 3 lp ∧ Keep2 g B w w' := by
  obtain ⟨c0, c1, c2, c3, c4, c5, c6, c7, c8, cf⟩ := ho.cells
  have f7 := cf 7
  have f8 := cf 8
  have hO := Lib.hid ho
  clear ho cf
  go_enter Try.func23, Try.ntmps23
  go_wp2_with fail
  have hdr := h.below' (w' := w.drew) (by go_grown)
  go_region_held3 (fun w' => w'.cell? ⟨B, 0, none⟩ = some (.int .i64 1) ∧ w'.cell? ⟨B, 1, none⟩ = some (.int .i64 2) ∧ w'.cell? ⟨B, 2, none⟩ = some (.int .i64 2) ∧ w'.cell? ⟨B, 3, none⟩ = some (.int .i64 2) ∧ w'.cell? ⟨B, 4, none⟩ = some (.int .i64 id) ∧ w'.cell? ⟨B, 5, none⟩ = some (.int .i64 sr) ∧ w'.cell? ⟨B, 6, none⟩ = some (.int .i64 it)) (first | (with_reducible assumption) | exact ⟨hcs.1, hcs.2.1, hcs.2.2.1, hcs.2.2.2.1, hcs.2.2.2.2.1, hcs.2.2.2.2.2.1, hcs.2.2.2.2.2.2.1⟩ | exact ⟨c0, c1, c2, c3, c4, c5, c6⟩)
    (first | (go_at_call 22; refine (rended_j S g k xs id sr it F q x false w0 _ hdr h1 h2 hF hn hq hk hx hqb hat hm).mono ?_; rintro e w1 ⟨rfl, hj, hk0⟩; have hk1 : Keep g w w1 := hk0; have ho1 : NapAt w1 B id sr it 1 lp := hk1.block hO.out hg.out; have hO1 := Lib.hid ho1; have hcs := ho1.cells) | (go_at_call 66; refine (look_Nap B id sr it 1 lp false _ hO1.out).mono ?_; rintro e w2 ⟨rfl, ho2, v1, v2, hw2⟩; have hcs := ho2.cells))
  have hJ2 : J w0 w2 S g xs ∧ Keep2 g B w w2 := by
    rcases hw2 with rfl | rfl
    · exact ⟨hj.obj_set hO1.out hg.out hS.out h0.out, (hk1.two B).trans (Keep2.set g B 7 _ _)⟩
    · exact ⟨(hj.obj_set hO1.out hg.out hS.out h0.out).obj_set (obj_set _ hO1.out) hg.out hS.out h0.out, ((hk1.two B).trans (Keep2.set g B 7 _ _)).trans (Keep2.set g B 7 _ _)⟩
  clear hw2 c0 c1 c2 c3 c4 c5 c6 c7 c8 hcs
  obtain ⟨c0, c1, c2, c3, c4, c5, c6, c7, c8, cf⟩ := ho2.cells
  have hO2 := Lib.hid ho2
  clear ho2 cf
  simp only [if_true, if_false, Bool.false_eq_true] at c7
  go_wp2_with fail
  go_ret
  exact ⟨rfl, hJ2.1, hO2.out, hJ2.2⟩
set_option maxHeartbeats 1000000 in
set_option maxRecDepth 20000 in
theorem rouse_Nap_yes (S g B k : Nat) (xs : List Int) (id sr it F q : Int) (lp : Bool) (w0 w : World) (h : J w0 w S g xs) (ho : NapAt w B id sr it 2 lp) (hg : Hid (B ≠ g)) (hS : Hid (B ≠ S)) (h0 : Hid (w0.heap.size ≤ B)) (h1 : 1 ≤ id) (h2 : id ≤ 2) (hF : Hid ((1 : Int) * (4 + 2) + (id - 1) * (2 + (2 + 1) * 4) = F)) (hat : k < xs.length) (hm : xs.length ≤ 1048576) (hk : Hid (F + 1 = (k : Int))) (hx : Hid (xs.getD k 0 = tOf sr it 0)) :
    Calls Try.prog 67 #[.pointer (some ⟨B, 0, none⟩), .pointer (some ⟨S, 0, none⟩)] w fun e w' => e = .returned (.tuple #[]) ∧ J w0 w' S g (xs.set k 0) ∧ NapAt w' B id sr it 3 true ∧ Keep2 g B w w' := by
  obtain ⟨c0, c1, c2, c3, c4, c5, c6, c7, c8, cf⟩ := ho.cells
  have hO := Lib.hid ho
  clear ho cf
  go_enter Try.func67, Try.ntmps67
  go_wp2_with fail
  have hdr := h.below' (w' := w.drew) (by go_grown)
  go_region_held3 (fun w' => w'.cell? ⟨B, 0, none⟩ = some (.int .i64 1) ∧ w'.cell? ⟨B, 1, none⟩ = some (.int .i64 2) ∧ w'.cell? ⟨B, 2, none⟩ = some (.int .i64 2) ∧ w'.cell? ⟨B, 3, none⟩ = some (.int .i64 2) ∧ w'.cell? ⟨B, 4, none⟩ = some (.int .i64 id) ∧ w'.cell? ⟨B, 5, none⟩ = some (.int .i64 sr) ∧ w'.cell? ⟨B, 6, none⟩ = some (.int .i64 it)) (first | (with_reducible assumption) | exact hd7 | exact ⟨hcs.1, hcs.2.1, hcs.2.2.1, hcs.2.2.2.1, hcs.2.2.2.2.1, hcs.2.2.2.2.2.1, hcs.2.2.2.2.2.2.1⟩ | exact ⟨c0, c1, c2, c3, c4, c5, c6⟩)
    (first | (go_at_call 102; refine (rrouse_yes S g k xs id sr it F q w0 _ hdr h1 h2 hF hk hx hat hm).mono ?_; rintro e w1 ⟨rfl, hj, hk0⟩; have hk1 : Keep g w w1 := hk0; have ho1 : NapAt w1 B id sr it 2 lp := hk1.block hO.out hg.out; have hO1 := Lib.hid ho1; have hcs := ho1.cells; have d8 := hcs.2.2.2.2.2.2.2.2.1; have f8 := hcs.2.2.2.2.2.2.2.2.2 8; have hd7 := seven_Nap (.bool true) hO1.out))
  have e7 : (w1.setCell ⟨B, 8, none⟩ (.bool true)).cell? ⟨B, 7, none⟩ = some (.int .i64 2) := by
    have := obj_set (i := 8) (.bool true) hO1.out
    simp [World.cell?, this, NapC]
  have f7 : (w1.setCell ⟨B, 8, none⟩ (.bool true)).frozen? ⟨B, 7, none⟩ = false := by
    have := obj_set (i := 8) (.bool true) hO1.out
    simp [World.frozen?, this]
  go_wp2_with fail
  go_end0
  exact ⟨rfl, (hj.obj_set hO1.out hg.out hS.out h0.out).obj_set (obj_set _ hO1.out) hg.out hS.out h0.out, obj_set _ (obj_set _ hO1.out), ((hk1.two B).trans (Keep2.set g B 8 _ _)).trans (Keep2.set g B 7 _ _)⟩
set_option maxHeartbeats 1000000 in
set_option maxRecDepth 20000 in
theorem nap_rouses_yes (S g B k : Nat) (xs : List Int) (id sr it F q : Int) (lp : Bool) (w0 w : World) (h : J w0 w S g xs) (ho : NapAt w B id sr it 2 lp) (hg : Hid (B ≠ g)) (hS : Hid (B ≠ S)) (h0 : Hid (w0.heap.size ≤ B)) (h1 : 1 ≤ id) (h2 : id ≤ 2) (hF : Hid ((1 : Int) * (4 + 2) + (id - 1) * (2 + (2 + 1) * 4) = F)) (hn : 0 ≤ it) (hq : Hid (it.tmod (2 + 1) = q)) (hat : k < xs.length) (hm : xs.length ≤ 1048576) (hk : Hid (F + 1 = (k : Int))) (hx : Hid (xs.getD k 0 = tOf sr it 0)) :
    Calls Try.prog 23 #[.pointer (some ⟨B, 0, none⟩), .pointer (some ⟨S, 0, none⟩)] w fun e w' => e = .returned (.bool true) ∧ J w0 w' S g (xs.set k 0) ∧ NapAt w' B id sr it 3 true ∧ Keep2 g B w w' := by
  obtain ⟨c0, c1, c2, c3, c4, c5, c6, c7, c8, cf⟩ := ho.cells
  have f7 := cf 7
  have f8 := cf 8
  have hO := Lib.hid ho
  clear ho cf
  go_enter Try.func23, Try.ntmps23
  go_wp2_with fail
  go_wp2_with (first | (go_at_call 67; refine (rouse_Nap_yes S g B k xs id sr it F q lp w0 _ h hO.out hg hS h0 h1 h2 hF hat hm hk hx).mono ?_; rintro e w2 ⟨rfl, hj2, ho2, hk2⟩; obtain ⟨c0, c1, c2, c3, c4, c5, c6, c7, c8, cf⟩ := ho2.cells))
  go_ret
  exact ⟨rfl, hj2, ho2, hk2⟩
set_option maxHeartbeats 1000000 in
set_option maxRecDepth 20000 in
theorem rouse_Nap_no (S g B k : Nat) (xs : List Int) (id sr it F q : Int) (lp : Bool) (w0 w : World) (h : J w0 w S g xs) (ho : NapAt w B id sr it 2 lp) (hg : Hid (B ≠ g)) (hS : Hid (B ≠ S)) (h0 : Hid (w0.heap.size ≤ B)) (h1 : 1 ≤ id) (h2 : id ≤ 2) (hF : Hid ((1 : Int) * (4 + 2) + (id - 1) * (2 + (2 + 1) * 4) = F)) (hat : k < xs.length) (hm : xs.length ≤ 1048576) (hk : Hid (F + 1 = (k : Int))) (x : Int) (hx : Hid (xs.getD k 0 = x)) (hne : Hid (x ≠ tOf sr it 0)) :
    Calls Try.prog 67 #[.pointer (some ⟨B, 0, none⟩), .pointer (some ⟨S, 0, none⟩)] w fun e w' => e = .returned (.tuple #[]) ∧ J w0 w' S g (xs) ∧ NapAt w' B id sr it 3 false ∧ Keep2 g B w w' := by
  obtain ⟨c0, c1, c2, c3, c4, c5, c6, c7, c8, cf⟩ := ho.cells
  have hO := Lib.hid ho
  clear ho cf
  go_enter Try.func67, Try.ntmps67
  go_wp2_with fail
  have hdr := h.below' (w' := w.drew) (by go_grown)
  go_region_held3 (fun w' => w'.cell? ⟨B, 0, none⟩ = some (.int .i64 1) ∧ w'.cell? ⟨B, 1, none⟩ = some (.int .i64 2) ∧ w'.cell? ⟨B, 2, none⟩ = some (.int .i64 2) ∧ w'.cell? ⟨B, 3, none⟩ = some (.int .i64 2) ∧ w'.cell? ⟨B, 4, none⟩ = some (.int .i64 id) ∧ w'.cell? ⟨B, 5, none⟩ = some (.int .i64 sr) ∧ w'.cell? ⟨B, 6, none⟩ = some (.int .i64 it)) (first | (with_reducible assumption) | exact hd7 | exact ⟨hcs.1, hcs.2.1, hcs.2.2.1, hcs.2.2.2.1, hcs.2.2.2.2.1, hcs.2.2.2.2.2.1, hcs.2.2.2.2.2.2.1⟩ | exact ⟨c0, c1, c2, c3, c4, c5, c6⟩)
    (first | (go_at_call 102; refine (rrouse_no S g k xs id sr it F q x w0 _ hdr h1 h2 hF hk hx hne hat hm).mono ?_; rintro e w1 ⟨rfl, hj, hk0⟩; have hk1 : Keep g w w1 := hk0; have ho1 : NapAt w1 B id sr it 2 lp := hk1.block hO.out hg.out; have hO1 := Lib.hid ho1; have hcs := ho1.cells; have d8 := hcs.2.2.2.2.2.2.2.2.1; have f8 := hcs.2.2.2.2.2.2.2.2.2 8; have hd7 := seven_Nap (.bool false) hO1.out))
  have e7 : (w1.setCell ⟨B, 8, none⟩ (.bool false)).cell? ⟨B, 7, none⟩ = some (.int .i64 2) := by
    have := obj_set (i := 8) (.bool false) hO1.out
    simp [World.cell?, this, NapC]
  have f7 : (w1.setCell ⟨B, 8, none⟩ (.bool false)).frozen? ⟨B, 7, none⟩ = false := by
    have := obj_set (i := 8) (.bool false) hO1.out
    simp [World.frozen?, this]
  go_wp2_with fail
  go_end0
  exact ⟨rfl, (hj.obj_set hO1.out hg.out hS.out h0.out).obj_set (obj_set _ hO1.out) hg.out hS.out h0.out, obj_set _ (obj_set _ hO1.out), ((hk1.two B).trans (Keep2.set g B 8 _ _)).trans (Keep2.set g B 7 _ _)⟩
set_option maxHeartbeats 1000000 in
set_option maxRecDepth 20000 in
theorem nap_rouses_no (S g B k : Nat) (xs : List Int) (id sr it F q : Int) (lp : Bool) (w0 w : World) (h : J w0 w S g xs) (ho : NapAt w B id sr it 2 lp) (hg : Hid (B ≠ g)) (hS : Hid (B ≠ S)) (h0 : Hid (w0.heap.size ≤ B)) (h1 : 1 ≤ id) (h2 : id ≤ 2) (hF : Hid ((1 : Int) * (4 + 2) + (id - 1) * (2 + (2 + 1) * 4) = F)) (hn : 0 ≤ it) (hq : Hid (it.tmod (2 + 1) = q)) (hat : k < xs.length) (hm : xs.length ≤ 1048576) (hk : Hid (F + 1 = (k : Int))) (x : Int) (hx : Hid (xs.getD k 0 = x)) (hne : Hid (x ≠ tOf sr it 0)) :
    Calls Try.prog 23 #[.pointer (some ⟨B, 0, none⟩), .pointer (some ⟨S, 0, none⟩)] w fun e w' => e = .returned (.bool true) ∧ J w0 w' S g (xs) ∧ NapAt w' B id sr it 3 false ∧ Keep2 g B w w' := by
  obtain ⟨c0, c1, c2, c3, c4, c5, c6, c7, c8, cf⟩ := ho.cells
  have f7 := cf 7
  have f8 := cf 8
  have hO := Lib.hid ho
  clear ho cf
  go_enter Try.func23, Try.ntmps23
  go_wp2_with fail
  go_wp2_with (first | (go_at_call 67; refine (rouse_Nap_no S g B k xs id sr it F q lp w0 _ h hO.out hg hS h0 h1 h2 hF hat hm hk x hx hne).mono ?_; rintro e w2 ⟨rfl, hj2, ho2, hk2⟩; obtain ⟨c0, c1, c2, c3, c4, c5, c6, c7, c8, cf⟩ := ho2.cells))
  go_ret
  exact ⟨rfl, hj2, ho2, hk2⟩
theorem nap_back (B : Nat) (id sr it nx : Int) (lp : Bool) (w : World) (ho : NapAt w B id sr it nx lp) : Calls Try.prog 24 #[.pointer (some ⟨B, 0, none⟩)] w fun e w' => e = .returned (.bool lp) ∧ w = w' := by
  obtain ⟨c0, c1, c2, c3, c4, c5, c6, c7, c8, cf⟩ := ho.cells
  clear ho cf
  go_enter Try.func24, Try.ntmps24
  go_wp2_with fail
  go_ret
  exact ⟨rfl, rfl⟩
theorem WakeAt.cells {w : World} {B : Nat} {id sr it nx : Int} {lp : Bool} (h : WakeAt w B id sr it nx lp) : w.cell? ⟨B, 0, none⟩ = some (.int .i64 1) ∧ w.cell? ⟨B, 1, none⟩ = some (.int .i64 2) ∧ w.cell? ⟨B, 2, none⟩ = some (.int .i64 2) ∧ w.cell? ⟨B, 3, none⟩ = some (.int .i64 2) ∧ w.cell? ⟨B, 4, none⟩ = some (.int .i64 id) ∧ w.cell? ⟨B, 5, none⟩ = some (.int .i64 sr) ∧ w.cell? ⟨B, 6, none⟩ = some (.int .i64 it) ∧ w.cell? ⟨B, 7, none⟩ = some (.int .i64 nx) ∧ w.cell? ⟨B, 8, none⟩ = some (.bool lp) ∧ w.cell? ⟨B, 9, none⟩ = some (.bool false) ∧ (∀ i, w.frozen? ⟨B, i, none⟩ = false) := by
  unfold WakeAt at h
  refine ⟨?_, ?_, ?_, ?_, ?_, ?_, ?_, ?_, ?_, ?_, fun i => by simp [World.frozen?, h]⟩ <;> simp [World.cell?, h, WakeC]
theorem seven_Wake {w : World} {B : Nat} {id sr it nx : Int} {lp : Bool} (v : Value) (h : WakeAt w B id sr it nx lp) : (w.setCell ⟨B, 8, none⟩ v).cell? ⟨B, 0, none⟩ = some (.int .i64 1) ∧ (w.setCell ⟨B, 8, none⟩ v).cell? ⟨B, 1, none⟩ = some (.int .i64 2) ∧ (w.setCell ⟨B, 8, none⟩ v).cell? ⟨B, 2, none⟩ = some (.int .i64 2) ∧ (w.setCell ⟨B, 8, none⟩ v).cell? ⟨B, 3, none⟩ = some (.int .i64 2) ∧ (w.setCell ⟨B, 8, none⟩ v).cell? ⟨B, 4, none⟩ = some (.int .i64 id) ∧ (w.setCell ⟨B, 8, none⟩ v).cell? ⟨B, 5, none⟩ = some (.int .i64 sr) ∧ (w.setCell ⟨B, 8, none⟩ v).cell? ⟨B, 6, none⟩ = some (.int .i64 it) := by
  have := obj_set (i := 8) v h
  refine ⟨?_, ?_, ?_, ?_, ?_, ?_, ?_⟩ <;> simp [World.cell?, this, WakeC]
theorem look_Wake (B : Nat) (id sr it nx : Int) (lp b : Bool) (w : World) (h : WakeAt w B id sr it nx lp) : Calls Try.prog 66 #[.pointer (some ⟨B, 0, none⟩), .bool b] w fun e w' => e = .returned (.tuple #[]) ∧ WakeAt w' B id sr it (if b then 2 else 3) lp ∧ ∃ v1 v2, (w' = w.setCell ⟨B, 7, none⟩ v1 ∨ w' = (w.setCell ⟨B, 7, none⟩ v1).setCell ⟨B, 7, none⟩ v2) := by
  obtain ⟨c0, c1, c2, c3, c4, c5, c6, c7, c8, c9, cf⟩ := h.cells
  have f7 := cf 7
  have hH := Lib.hid h
  clear h cf
  cases b
  · go_enter Try.func66, Try.ntmps66
    go_wp2_with fail
    go_end0
    exact ⟨rfl, obj_set _ hH.out, _, .nilFunc, .inl rfl⟩
  · have d7 : (w.setCell ⟨B, 7, none⟩ (.int .i64 3)).cell? ⟨B, 7, none⟩ = some (.int .i64 3) := by
      have := obj_set (i := 7) (.int .i64 3) hH.out
      simp [World.cell?, this, WakeC]
    go_enter Try.func66, Try.ntmps66
    go_wp2_with fail
    go_end0
    exact ⟨rfl, obj_set _ (obj_set _ hH.out), _, _, .inr rfl⟩
set_option maxHeartbeats 1000000 in
set_option maxRecDepth 20000 in
theorem wake_tells (S g B k : Nat) (xs : List Int) (id sr it F q : Int) (lp : Bool) (w0 w : World) (h : J w0 w S g xs) (ho : WakeAt w B id sr it 0 lp) (hg : Hid (B ≠ g)) (hS : Hid (B ≠ S)) (h0 : Hid (w0.heap.size ≤ B)) (h1 : 1 ≤ id) (h2 : id ≤ 2) (hF : Hid ((1 : Int) * (4 + 2) + (id - 1) * (2 + (2 + 1) * 4) = F)) (hn : 0 ≤ it) (hq : Hid (it.tmod (2 + 1) = q)) (hat : k < xs.length) (hm : xs.length ≤ 1048576) (hk : Hid (F + 2 + q * 4 + 3 = (k : Int))) :
    Calls Try.prog 25 #[.pointer (some ⟨B, 0, none⟩), .pointer (some ⟨S, 0, none⟩)] w fun e w' => e = .returned (.bool false) ∧ J w0 w' S g (xs.set k (tOf sr it 0)) ∧ WakeAt w' B id sr it 1 lp ∧ Keep2 g B w w' := by
  obtain ⟨c0, c1, c2, c3, c4, c5, c6, c7, c8, c9, cf⟩ := ho.cells
  have f7 := cf 7
  have f8 := cf 8
  have hO := Lib.hid ho
  clear ho cf
  go_enter Try.func25, Try.ntmps25
  go_wp2_with fail
  go_still_tail 11, (by kernel_rfl)
  change wpList _ _ _ _ _ w.drew
  have hdr := h.below' (w' := w.drew) (by go_grown)
  go_wp2_with fail
  refine (rend_j S g k xs id sr it F q w0 _ hdr h1 h2 hF hn hq hk hat hm).mono ?_
  rintro e w1 ⟨rfl, hj, hk0⟩
  have hk1 : Keep g w w1 := hk0
  clear hk0
  have ho1 : WakeAt w1 B id sr it 0 lp := hk1.block hO.out hg.out
  obtain ⟨c0, c1, c2, c3, c4, c5, c6, c7, c8, c9, cf⟩ := ho1.cells
  have f7 := cf 7
  have f8 := cf 8
  have hO1 := Lib.hid ho1
  clear ho1 cf
  have d7 : (w1.setCell ⟨B, 7, none⟩ (.int .i64 1)).cell? ⟨B, 7, none⟩ = some (.int .i64 1) := by
    have := obj_set (i := 7) (.int .i64 1) hO1.out
    simp [World.cell?, this, WakeC]
  have d9 : (w1.setCell ⟨B, 7, none⟩ (.int .i64 1)).cell? ⟨B, 9, none⟩ = some (.bool false) := by
    have := obj_set (i := 7) (.int .i64 1) hO1.out
    simp [World.cell?, this, WakeC]
  go_wp2_with fail
  go_ret
  exact ⟨rfl, hj.obj_set hO1.out hg.out hS.out h0.out, obj_set _ hO1.out, (hk1.two B).trans (Keep2.set g B 7 _ _)⟩
set_option maxHeartbeats 1000000 in
set_option maxRecDepth 20000 in
theorem wake_looks_yes (S g B k : Nat) (xs : List Int) (id sr it F q : Int) (lp : Bool) (w0 w : World) (h : J w0 w S g xs) (ho : WakeAt w B id sr it 1 lp) (hg : Hid (B ≠ g)) (hS : Hid (B ≠ S)) (h0 : Hid (w0.heap.size ≤ B)) (h1 : 1 ≤ id) (h2 : id ≤ 2) (hF : Hid ((1 : Int) * (4 + 2) + (id - 1) * (2 + (2 + 1) * 4) = F)) (hn : 0 ≤ it) (hq : Hid (it.tmod (2 + 1) = q)) (hat : k < xs.length) (hm : xs.length ≤ 1048576) (hk : Hid (F + 1 = (k : Int))) (x : Int) (hx : Hid (xs.getD k 0 = x)) (hqb : Hid ((x == tOf sr it 0) = true)) :
    Calls Try.prog 25 #[.pointer (some ⟨B, 0, none⟩), .pointer (some ⟨S, 0, none⟩)] w fun e w' => e = .returned (.bool false) ∧ J w0 w' S g (xs) ∧ WakeAt w' B id sr it 2 lp ∧ Keep2 g B w w' := by
  obtain ⟨c0, c1, c2, c3, c4, c5, c6, c7, c8, c9, cf⟩ := ho.cells
  have f7 := cf 7
  have f8 := cf 8
  have hO := Lib.hid ho
  clear ho cf
  go_enter Try.func25, Try.ntmps25
  go_wp2_with fail
  have hdr := h.below' (w' := w.drew) (by go_grown)
  go_region_held3 (fun w' => w'.cell? ⟨B, 0, none⟩ = some (.int .i64 1) ∧ w'.cell? ⟨B, 1, none⟩ = some (.int .i64 2) ∧ w'.cell? ⟨B, 2, none⟩ = some (.int .i64 2) ∧ w'.cell? ⟨B, 3, none⟩ = some (.int .i64 2) ∧ w'.cell? ⟨B, 4, none⟩ = some (.int .i64 id) ∧ w'.cell? ⟨B, 5, none⟩ = some (.int .i64 sr) ∧ w'.cell? ⟨B, 6, none⟩ = some (.int .i64 it)) (first | (with_reducible assumption) | exact ⟨hcs.1, hcs.2.1, hcs.2.2.1, hcs.2.2.2.1, hcs.2.2.2.2.1, hcs.2.2.2.2.2.1, hcs.2.2.2.2.2.2.1⟩ | exact ⟨c0, c1, c2, c3, c4, c5, c6⟩)
    (first | (go_at_call 69; refine (rsleeps_j S g k xs id sr it F q x true w0 _ hdr h1 h2 hF hk hx hqb hat hm).mono ?_; rintro e w1 ⟨rfl, hj, hk0⟩; have hk1 : Keep g w w1 := hk0; have ho1 : WakeAt w1 B id sr it 1 lp := hk1.block hO.out hg.out; have hO1 := Lib.hid ho1; have hcs := ho1.cells) | (go_at_call 66; refine (look_Wake B id sr it 1 lp true _ hO1.out).mono ?_; rintro e w2 ⟨rfl, ho2, v1, v2, hw2⟩; have hcs := ho2.cells))
  have hJ2 : J w0 w2 S g xs ∧ Keep2 g B w w2 := by
    rcases hw2 with rfl | rfl
    · exact ⟨hj.obj_set hO1.out hg.out hS.out h0.out, (hk1.two B).trans (Keep2.set g B 7 _ _)⟩
    · exact ⟨(hj.obj_set hO1.out hg.out hS.out h0.out).obj_set (obj_set _ hO1.out) hg.out hS.out h0.out, ((hk1.two B).trans (Keep2.set g B 7 _ _)).trans (Keep2.set g B 7 _ _)⟩
  clear hw2 c0 c1 c2 c3 c4 c5 c6 c7 c8 hcs
  obtain ⟨c0, c1, c2, c3, c4, c5, c6, c7, c8, c9, cf⟩ := ho2.cells
  have hO2 := Lib.hid ho2
  clear ho2 cf
  simp only [if_true, if_false, Bool.false_eq_true] at c7
  go_wp2_with fail
  go_ret
  exact ⟨rfl, hJ2.1, hO2.out, hJ2.2⟩
set_option maxHeartbeats 1000000 in
set_option maxRecDepth 20000 in
theorem wake_looks_no (S g B k : Nat) (xs : List Int) (id sr it F q : Int) (lp : Bool) (w0 w : World) (h : J w0 w S g xs) (ho : WakeAt w B id sr it 1 lp) (hg : Hid (B ≠ g)) (hS : Hid (B ≠ S)) (h0 : Hid (w0.heap.size ≤ B)) (h1 : 1 ≤ id) (h2 : id ≤ 2) (hF : Hid ((1 : Int) * (4 + 2) + (id - 1) * (2 + (2 + 1) * 4) = F)) (hn : 0 ≤ it) (hq : Hid (it.tmod (2 + 1) = q)) (hat : k < xs.length) (hm : xs.length ≤ 1048576) (hk : Hid (F + 1 = (k : Int))) (x : Int) (hx : Hid (xs.getD k 0 = x)) (hqb : Hid ((x == tOf sr it 0) = false)) :
    Calls Try.prog 25 #[.pointer (some ⟨B, 0, none⟩), .pointer (some ⟨S, 0, none⟩)] w fun e w' => e = .returned (.bool true) ∧ J w0 w' S g (xs) ∧ WakeAt w' B id sr it 3 lp ∧ Keep2 g B w w' := by
  obtain ⟨c0, c1, c2, c3, c4, c5, c6, c7, c8, c9, cf⟩ := ho.cells
  have f7 := cf 7
  have f8 := cf 8
  have hO := Lib.hid ho
  clear ho cf
  go_enter Try.func25, Try.ntmps25
  go_wp2_with fail
  have hdr := h.below' (w' := w.drew) (by go_grown)
  go_region_held3 (fun w' => w'.cell? ⟨B, 0, none⟩ = some (.int .i64 1) ∧ w'.cell? ⟨B, 1, none⟩ = some (.int .i64 2) ∧ w'.cell? ⟨B, 2, none⟩ = some (.int .i64 2) ∧ w'.cell? ⟨B, 3, none⟩ = some (.int .i64 2) ∧ w'.cell? ⟨B, 4, none⟩ = some (.int .i64 id) ∧ w'.cell? ⟨B, 5, none⟩ = some (.int .i64 sr) ∧ w'.cell? ⟨B, 6, none⟩ = some (.int .i64 it)) (first | (with_reducible assumption) | exact ⟨hcs.1, hcs.2.1, hcs.2.2.1, hcs.2.2.2.1, hcs.2.2.2.2.1, hcs.2.2.2.2.2.1, hcs.2.2.2.2.2.2.1⟩ | exact ⟨c0, c1, c2, c3, c4, c5, c6⟩)
    (first | (go_at_call 69; refine (rsleeps_j S g k xs id sr it F q x false w0 _ hdr h1 h2 hF hk hx hqb hat hm).mono ?_; rintro e w1 ⟨rfl, hj, hk0⟩; have hk1 : Keep g w w1 := hk0; have ho1 : WakeAt w1 B id sr it 1 lp := hk1.block hO.out hg.out; have hO1 := Lib.hid ho1; have hcs := ho1.cells) | (go_at_call 66; refine (look_Wake B id sr it 1 lp false _ hO1.out).mono ?_; rintro e w2 ⟨rfl, ho2, v1, v2, hw2⟩; have hcs := ho2.cells))
  have hJ2 : J w0 w2 S g xs ∧ Keep2 g B w w2 := by
    rcases hw2 with rfl | rfl
    · exact ⟨hj.obj_set hO1.out hg.out hS.out h0.out, (hk1.two B).trans (Keep2.set g B 7 _ _)⟩
    · exact ⟨(hj.obj_set hO1.out hg.out hS.out h0.out).obj_set (obj_set _ hO1.out) hg.out hS.out h0.out, ((hk1.two B).trans (Keep2.set g B 7 _ _)).trans (Keep2.set g B 7 _ _)⟩
  clear hw2 c0 c1 c2 c3 c4 c5 c6 c7 c8 hcs
  obtain ⟨c0, c1, c2, c3, c4, c5, c6, c7, c8, c9, cf⟩ := ho2.cells
  have hO2 := Lib.hid ho2
  clear ho2 cf
  simp only [if_true, if_false, Bool.false_eq_true] at c7
  go_wp2_with fail
  go_ret
  exact ⟨rfl, hJ2.1, hO2.out, hJ2.2⟩
set_option maxHeartbeats 1000000 in
set_option maxRecDepth 20000 in
theorem rouse_Wake_yes (S g B k : Nat) (xs : List Int) (id sr it F q : Int) (lp : Bool) (w0 w : World) (h : J w0 w S g xs) (ho : WakeAt w B id sr it 2 lp) (hg : Hid (B ≠ g)) (hS : Hid (B ≠ S)) (h0 : Hid (w0.heap.size ≤ B)) (h1 : 1 ≤ id) (h2 : id ≤ 2) (hF : Hid ((1 : Int) * (4 + 2) + (id - 1) * (2 + (2 + 1) * 4) = F)) (hat : k < xs.length) (hm : xs.length ≤ 1048576) (hk : Hid (F + 1 = (k : Int))) (hx : Hid (xs.getD k 0 = tOf sr it 0)) :
    Calls Try.prog 67 #[.pointer (some ⟨B, 0, none⟩), .pointer (some ⟨S, 0, none⟩)] w fun e w' => e = .returned (.tuple #[]) ∧ J w0 w' S g (xs.set k 0) ∧ WakeAt w' B id sr it 3 true ∧ Keep2 g B w w' := by
  obtain ⟨c0, c1, c2, c3, c4, c5, c6, c7, c8, c9, cf⟩ := ho.cells
  have hO := Lib.hid ho
  clear ho cf
  go_enter Try.func67, Try.ntmps67
  go_wp2_with fail
  have hdr := h.below' (w' := w.drew) (by go_grown)
  go_region_held3 (fun w' => w'.cell? ⟨B, 0, none⟩ = some (.int .i64 1) ∧ w'.cell? ⟨B, 1, none⟩ = some (.int .i64 2) ∧ w'.cell? ⟨B, 2, none⟩ = some (.int .i64 2) ∧ w'.cell? ⟨B, 3, none⟩ = some (.int .i64 2) ∧ w'.cell? ⟨B, 4, none⟩ = some (.int .i64 id) ∧ w'.cell? ⟨B, 5, none⟩ = some (.int .i64 sr) ∧ w'.cell? ⟨B, 6, none⟩ = some (.int .i64 it)) (first | (with_reducible assumption) | exact hd7 | exact ⟨hcs.1, hcs.2.1, hcs.2.2.1, hcs.2.2.2.1, hcs.2.2.2.2.1, hcs.2.2.2.2.2.1, hcs.2.2.2.2.2.2.1⟩ | exact ⟨c0, c1, c2, c3, c4, c5, c6⟩)
    (first | (go_at_call 102; refine (rrouse_yes S g k xs id sr it F q w0 _ hdr h1 h2 hF hk hx hat hm).mono ?_; rintro e w1 ⟨rfl, hj, hk0⟩; have hk1 : Keep g w w1 := hk0; have ho1 : WakeAt w1 B id sr it 2 lp := hk1.block hO.out hg.out; have hO1 := Lib.hid ho1; have hcs := ho1.cells; have d8 := hcs.2.2.2.2.2.2.2.2.1; have f8 := hcs.2.2.2.2.2.2.2.2.2.2 8; have hd7 := seven_Wake (.bool true) hO1.out))
  have e7 : (w1.setCell ⟨B, 8, none⟩ (.bool true)).cell? ⟨B, 7, none⟩ = some (.int .i64 2) := by
    have := obj_set (i := 8) (.bool true) hO1.out
    simp [World.cell?, this, WakeC]
  have f7 : (w1.setCell ⟨B, 8, none⟩ (.bool true)).frozen? ⟨B, 7, none⟩ = false := by
    have := obj_set (i := 8) (.bool true) hO1.out
    simp [World.frozen?, this]
  go_wp2_with fail
  go_end0
  exact ⟨rfl, (hj.obj_set hO1.out hg.out hS.out h0.out).obj_set (obj_set _ hO1.out) hg.out hS.out h0.out, obj_set _ (obj_set _ hO1.out), ((hk1.two B).trans (Keep2.set g B 8 _ _)).trans (Keep2.set g B 7 _ _)⟩
set_option maxHeartbeats 1000000 in
set_option maxRecDepth 20000 in
theorem wake_rouses_yes (S g B k : Nat) (xs : List Int) (id sr it F q : Int) (lp : Bool) (w0 w : World) (h : J w0 w S g xs) (ho : WakeAt w B id sr it 2 lp) (hg : Hid (B ≠ g)) (hS : Hid (B ≠ S)) (h0 : Hid (w0.heap.size ≤ B)) (h1 : 1 ≤ id) (h2 : id ≤ 2) (hF : Hid ((1 : Int) * (4 + 2) + (id - 1) * (2 + (2 + 1) * 4) = F)) (hn : 0 ≤ it) (hq : Hid (it.tmod (2 + 1) = q)) (hat : k < xs.length) (hm : xs.length ≤ 1048576) (hk : Hid (F + 1 = (k : Int))) (hx : Hid (xs.getD k 0 = tOf sr it 0)) :
    Calls Try.prog 25 #[.pointer (some ⟨B, 0, none⟩), .pointer (some ⟨S, 0, none⟩)] w fun e w' => e = .returned (.bool true) ∧ J w0 w' S g (xs.set k 0) ∧ WakeAt w' B id sr it 3 true ∧ Keep2 g B w w' := by
  obtain ⟨c0, c1, c2, c3, c4, c5, c6, c7, c8, c9, cf⟩ := ho.cells
  have f7 := cf 7
  have f8 := cf 8
  have hO := Lib.hid ho
  clear ho cf
  go_enter Try.func25, Try.ntmps25
  go_wp2_with fail
  go_wp2_with (first | (go_at_call 67; refine (rouse_Wake_yes S g B k xs id sr it F q lp w0 _ h hO.out hg hS h0 h1 h2 hF hat hm hk hx).mono ?_; rintro e w2 ⟨rfl, hj2, ho2, hk2⟩; obtain ⟨c0, c1, c2, c3, c4, c5, c6, c7, c8, c9, cf⟩ := ho2.cells))
  go_ret
  exact ⟨rfl, hj2, ho2, hk2⟩
set_option maxHeartbeats 1000000 in
set_option maxRecDepth 20000 in
theorem rouse_Wake_no (S g B k : Nat) (xs : List Int) (id sr it F q : Int) (lp : Bool) (w0 w : World) (h : J w0 w S g xs) (ho : WakeAt w B id sr it 2 lp) (hg : Hid (B ≠ g)) (hS : Hid (B ≠ S)) (h0 : Hid (w0.heap.size ≤ B)) (h1 : 1 ≤ id) (h2 : id ≤ 2) (hF : Hid ((1 : Int) * (4 + 2) + (id - 1) * (2 + (2 + 1) * 4) = F)) (hat : k < xs.length) (hm : xs.length ≤ 1048576) (hk : Hid (F + 1 = (k : Int))) (x : Int) (hx : Hid (xs.getD k 0 = x)) (hne : Hid (x ≠ tOf sr it 0)) :
    Calls Try.prog 67 #[.pointer (some ⟨B, 0, none⟩), .pointer (some ⟨S, 0, none⟩)] w fun e w' => e = .returned (.tuple #[]) ∧ J w0 w' S g (xs) ∧ WakeAt w' B id sr it 3 false ∧ Keep2 g B w w' := by
  obtain ⟨c0, c1, c2, c3, c4, c5, c6, c7, c8, c9, cf⟩ := ho.cells
  have hO := Lib.hid ho
  clear ho cf
  go_enter Try.func67, Try.ntmps67
  go_wp2_with fail
  have hdr := h.below' (w' := w.drew) (by go_grown)
  go_region_held3 (fun w' => w'.cell? ⟨B, 0, none⟩ = some (.int .i64 1) ∧ w'.cell? ⟨B, 1, none⟩ = some (.int .i64 2) ∧ w'.cell? ⟨B, 2, none⟩ = some (.int .i64 2) ∧ w'.cell? ⟨B, 3, none⟩ = some (.int .i64 2) ∧ w'.cell? ⟨B, 4, none⟩ = some (.int .i64 id) ∧ w'.cell? ⟨B, 5, none⟩ = some (.int .i64 sr) ∧ w'.cell? ⟨B, 6, none⟩ = some (.int .i64 it)) (first | (with_reducible assumption) | exact hd7 | exact ⟨hcs.1, hcs.2.1, hcs.2.2.1, hcs.2.2.2.1, hcs.2.2.2.2.1, hcs.2.2.2.2.2.1, hcs.2.2.2.2.2.2.1⟩ | exact ⟨c0, c1, c2, c3, c4, c5, c6⟩)
    (first | (go_at_call 102; refine (rrouse_no S g k xs id sr it F q x w0 _ hdr h1 h2 hF hk hx hne hat hm).mono ?_; rintro e w1 ⟨rfl, hj, hk0⟩; have hk1 : Keep g w w1 := hk0; have ho1 : WakeAt w1 B id sr it 2 lp := hk1.block hO.out hg.out; have hO1 := Lib.hid ho1; have hcs := ho1.cells; have d8 := hcs.2.2.2.2.2.2.2.2.1; have f8 := hcs.2.2.2.2.2.2.2.2.2.2 8; have hd7 := seven_Wake (.bool false) hO1.out))
  have e7 : (w1.setCell ⟨B, 8, none⟩ (.bool false)).cell? ⟨B, 7, none⟩ = some (.int .i64 2) := by
    have := obj_set (i := 8) (.bool false) hO1.out
    simp [World.cell?, this, WakeC]
  have f7 : (w1.setCell ⟨B, 8, none⟩ (.bool false)).frozen? ⟨B, 7, none⟩ = false := by
    have := obj_set (i := 8) (.bool false) hO1.out
    simp [World.frozen?, this]
  go_wp2_with fail
  go_end0
  exact ⟨rfl, (hj.obj_set hO1.out hg.out hS.out h0.out).obj_set (obj_set _ hO1.out) hg.out hS.out h0.out, obj_set _ (obj_set _ hO1.out), ((hk1.two B).trans (Keep2.set g B 8 _ _)).trans (Keep2.set g B 7 _ _)⟩
set_option maxHeartbeats 1000000 in
set_option maxRecDepth 20000 in
theorem wake_rouses_no (S g B k : Nat) (xs : List Int) (id sr it F q : Int) (lp : Bool) (w0 w : World) (h : J w0 w S g xs) (ho : WakeAt w B id sr it 2 lp) (hg : Hid (B ≠ g)) (hS : Hid (B ≠ S)) (h0 : Hid (w0.heap.size ≤ B)) (h1 : 1 ≤ id) (h2 : id ≤ 2) (hF : Hid ((1 : Int) * (4 + 2) + (id - 1) * (2 + (2 + 1) * 4) = F)) (hn : 0 ≤ it) (hq : Hid (it.tmod (2 + 1) = q)) (hat : k < xs.length) (hm : xs.length ≤ 1048576) (hk : Hid (F + 1 = (k : Int))) (x : Int) (hx : Hid (xs.getD k 0 = x)) (hne : Hid (x ≠ tOf sr it 0)) :
    Calls Try.prog 25 #[.pointer (some ⟨B, 0, none⟩), .pointer (some ⟨S, 0, none⟩)] w fun e w' => e = .returned (.bool true) ∧ J w0 w' S g (xs) ∧ WakeAt w' B id sr it 3 false ∧ Keep2 g B w w' := by
  obtain ⟨c0, c1, c2, c3, c4, c5, c6, c7, c8, c9, cf⟩ := ho.cells
  have f7 := cf 7
  have f8 := cf 8
  have hO := Lib.hid ho
  clear ho cf
  go_enter Try.func25, Try.ntmps25
  go_wp2_with fail
  go_wp2_with (first | (go_at_call 67; refine (rouse_Wake_no S g B k xs id sr it F q lp w0 _ h hO.out hg hS h0 h1 h2 hF hat hm hk x hx hne).mono ?_; rintro e w2 ⟨rfl, hj2, ho2, hk2⟩; obtain ⟨c0, c1, c2, c3, c4, c5, c6, c7, c8, c9, cf⟩ := ho2.cells))
  go_ret
  exact ⟨rfl, hj2, ho2, hk2⟩
theorem wake_got (B : Nat) (id sr it nx : Int) (lp : Bool) (w : World) (ho : WakeAt w B id sr it nx lp) : Calls Try.prog 26 #[.pointer (some ⟨B, 0, none⟩)] w fun e w' => e = .returned (.bool lp) ∧ w = w' := by
  obtain ⟨c0, c1, c2, c3, c4, c5, c6, c7, c8, c9, cf⟩ := ho.cells
  clear ho cf
  go_enter Try.func26, Try.ntmps26
  go_wp2_with fail
  go_ret
  exact ⟨rfl, rfl⟩
end Go.Proofs.Ytemboonjikccnab
