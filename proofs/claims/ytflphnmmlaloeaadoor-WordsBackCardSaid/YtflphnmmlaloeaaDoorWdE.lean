/- A list that is written, read (layer 5): the program's. -/
import Derived.Test.YtflphnmmlaloeaaDoorWdD
namespace Go.Proofs.YtflphnmmlaloeaaDoor.wd
open Go.ChangeShapes Go.WideShapes Go.ChangeAt Go.RowKit
open Go.Proofs.YtflphnmmlaloeaaDoor.st
set_option linter.unusedVariables false
set_option linter.unusedSimpArgs false
def nmF (acc : List Int) : List (List UInt8) → Option (List Int)
  | [] => some acc
  | x :: r => if (numV x).2 then nmF (acc ++ [(numV x).1]) r else none
def numsV (l : List UInt8) : Option (List Int) := if l = [45] then some [] else nmF [] (spl 44 l)
def NP (r : Option (List Int)) (w0 : World) (e : Ending) (w' : World) : Prop :=
  (match r with
    | some xs => ∃ v, e = .returned (.tuple #[v, .bool true]) ∧ View w' v xs
    | none => e = .returned (.tuple #[.slice none 0 0, .bool false])) ∧ Below w0.heap.size w0 w'
theorem own_below {w w' : World} {B : Nat} {v : Value} {n : Nat} {xs : List Value} (h : w.ownsRow B 3 1 v n xs) (hb : Below w.heap.size w w') : w'.ownsRow B 3 1 v n xs := by
  obtain ⟨hl, h⟩ := h
  refine ⟨hl, ?_⟩
  rcases h with h | ⟨g, cap, cur, rfl, hg, hh, h1, h2, h3, h4⟩
  · exact .inl h
  · exact .inr ⟨g, cap, cur, rfl, hg, (hb.block g (Array.getElem?_eq_some_iff.1 hh).1).trans hh, h1, h2, h3, h4⟩
theorem own_lt {w : World} {B : Nat} {v : Value} {n : Nat} {xs : List Value} (h : w.ownsRow B 3 1 v n xs) : ∀ k, v.ownBlock = some k → B ≤ k := by
  intro k hk
  obtain ⟨_, ⟨rfl, _⟩ | ⟨g, cap, cur, rfl, hg, hh, _⟩⟩ := h
  · simp [Value.ownBlock] at hk
  · simp [Value.ownBlock] at hk
    omega
theorem own_form {w : World} {B : Nat} {v : Value} {n : Nat} {xs : List Value} (h : w.ownsRow B 3 1 v n xs) : ∃ a c, v = .slice a n c := by
  obtain ⟨_, ⟨rfl, rfl⟩ | ⟨g, cap, cur, rfl, _⟩⟩ := h
  · exact ⟨none, 0, rfl⟩
  · exact ⟨_, cap, rfl⟩
theorem spl_len (c : UInt8) : ∀ l, (spl c l).length ≤ l.length + 1 := by
  intro l
  induction l with
  | nil => simp [spl]
  | cons x r ih =>
    rw [spl]
    split
    · simp; omega
    · split
      · simp
      · rename_i h t he
        rw [he] at ih
        simp at ih ⊢
        omega
theorem spl_part (c : UInt8) : ∀ l, ∀ x ∈ spl c l, x.length ≤ l.length := by
  intro l
  induction l with
  | nil => intro x hx; simp [spl] at hx; subst hx; simp
  | cons y r ih =>
    intro x hx
    rw [spl] at hx
    split at hx
    · rcases List.mem_cons.1 hx with rfl | hx
      · simp
      · have := ih x hx; simp; omega
    · split at hx
      · rename_i he
        simp at hx; subst hx; simp
      · rename_i h t he
        rcases List.mem_cons.1 hx with rfl | hx
        · have := ih h (by rw [he]; simp); simp; omega
        · have := ih x (by rw [he]; exact List.mem_cons_of_mem _ hx); simp; omega
set_option maxRecDepth 20000 in
set_option maxHeartbeats 1600000 in
theorem nums_v (l : List UInt8) (w : World) (hl : l.length ≤ 10000) (hN : NM w) : Calls Tryd.prog 19 #[.string ⟨l.toArray⟩] w fun e w' => NP (numsV l) w e w' := by
  obtain ⟨R, hR⟩ : ∃ R, numsV l = R := ⟨_, rfl⟩
  rw [hR]
  unfold numsV at hR
  by_cases h45 : l = [45]
  · rw [if_pos h45] at hR
    subst hR
    subst h45
    go_enter Tryd.func19, Tryd.ntmps19
    go_wp2_with fail
    go_ret2
    exact ⟨⟨_, rfl, View.nil _⟩, Below.refl _ _⟩
  · rw [if_neg h45] at hR
    have h45b : (l == [45]) = false := by simpa using h45
    have CS := Lib.hid (split_v 44 l w (by omega) hN)
    have HN := Lib.hid hN
    have hpl := spl_len 44 l
    have hpp := spl_part 44 l
    obtain ⟨P, hP⟩ : ∃ P, spl 44 l = P := ⟨_, rfl⟩
    rw [hP] at hR CS hpl hpp
    have HPP := Lib.hid hpp
    have hF0 : Hid (nmF [] (P.drop 0) = R) := Lib.hid (by rw [List.drop_zero]; exact hR)
    clear h45 hN hP hR hpp
    go_enter Tryd.func19, Tryd.ntmps19
    go_wp2_with fail
    refine CS.out.mono ?_
    rintro e W ⟨v0, rfl, hsv, hbW⟩
    obtain ⟨a0, c0, rfl, _⟩ := hsv.form
    obtain ⟨n, hn⟩ : ∃ n, P.length = n := ⟨_, rfl⟩
    rw [hn] at hsv hpl ⊢
    have HPL := Lib.hid hn
    have HSV := Lib.hid hsv
    have HBW := Lib.hid hbW
    have HO0 : Hid (W.ownsRow W.heap.size 3 1 (.slice none 0 0) ([] : List Int).length (([] : List Int).map (Value.int .i64))) := Lib.hid (World.ownsRow_nil _ _ _ _)
    have HB0 := Lib.hid (Below.refl W.heap.size W)
    have ha0 : Hid (([] : List Int).length = 0) := Lib.hid rfl
    clear hsv hbW hn CS
    go_wp2_with fail
    go_loopw [4, 14] (fun lv i wr => ∃ (k : Nat) (acc : List Int), i = .int .i64 (k : Int) ∧ k ≤ n ∧ Hid (acc.length = k) ∧ Hid (nmF acc (P.drop k) = R) ∧ Hid (wr.ownsRow W.heap.size 3 1 lv acc.length (acc.map (Value.int .i64))) ∧ Hid (Below W.heap.size W wr)) (fun _ i _ => n - (RowKit.intOf i).toNat)
    case atStart => exact ⟨0, [], rfl, by omega, ha0, hF0, HO0, HB0⟩
    case round =>
      clear hF0 HO0 HB0 ha0
      obtain ⟨k, acc, rfl, hk, HA, HF, HO, HB⟩ := hrel
      obtain ⟨la, lc, rfl⟩ := own_form HO.out
      by_cases hlt : k < n
      · have hki : (k : Int) < (n : Int) := by omega
        have hkP : k < P.length := by have := HPL.out; omega
        obtain ⟨b, o, rfl, hbl, hc⟩ := SV.at (HSV.out.below HB.out) k hlt
        have hd : P.drop k = P.getD k [] :: P.drop (k + 1) := by
          rw [List.drop_eq_getElem_cons hkP, List.getD_eq_getElem?_getD, List.getElem?_eq_getElem hkP]; rfl
        have hxl := HPP.out (P.getD k []) (by rw [List.getD_eq_getElem?_getD, List.getElem?_eq_getElem hkP]; exact List.getElem_mem _)
        obtain ⟨x, hx⟩ : ∃ x, P.getD k [] = x := ⟨_, rfl⟩
        rw [hx] at hd hc hxl
        have hf := HF.out
        rw [hd, nmF] at hf
        have CN := fun w hN => num_v x w (by omega) hN
        obtain ⟨xv, xb, hxv⟩ : ∃ a b, numV x = (a, b) := ⟨_, _, rfl⟩
        rw [hxv] at hf CN
        have CNH := Lib.hid CN
        have HNr := Lib.hid (HN.out.below (tr3 HBW.out HB.out))
        clear CN hd hxv hx HF
        cases xb with
        | false =>
          simp only [Bool.false_eq_true, if_false] at hf
          subst hf
          go_wp2_with fail
          refine (CNH.out _ HNr.out).mono ?_
          rintro e w5 ⟨rfl, hb5⟩
          have HB5 := Lib.hid (tr3 (tr3 HBW.out HB.out) hb5)
          clear hb5 hc CNH
          go_wp2_with fail
          go_ret2
          exact ⟨rfl, HB5.out⟩
        | true =>
          simp only [if_true] at hf
          have HFN := Lib.hid hf
          clear hf
          go_wp2_with fail
          refine (CNH.out _ HNr.out).mono ?_
          rintro e w5 ⟨rfl, hb5⟩
          have hg6 : Below w5.heap.size w5 (w5.alloc (.cells #[.int .i64 xv] 3)) := (Below.refl _ _).alloc (Nat.le_refl _) _
          have HB6 := Lib.hid (tr3 (tr3 HB.out hb5) hg6)
          have HO6 := Lib.hid (own_below HO.out (tr3 hb5 hg6))
          have hu6 : (w5.alloc (.cells #[.int .i64 xv] 3)).cell? ⟨w5.heap.size, 0, none⟩ = some (.int .i64 xv) := cel (heap_new w5 _ _) 0
          have HU6 := Lib.hid hu6
          have hab : acc.length ≤ 100000 := by have := HA.out; omega
          clear hb5 hg6 hu6 hc CNH HO HB
          go_wp2_with ((at_builtin; refine wpList_app1 rfl _ _ rfl W.heap.size (.slice la acc.length lc) acc rfl ⟨w5.heap.size, 0, none⟩ 1 rfl xv HO6.out HU6.out rfl hab HB6.out.size ?_))
          intro v7 w7 ho7 hg7 hor7
          have hb7 : Below W.heap.size W w7 := HB6.out.grown hg7 HB6.out.size (fun g e => own_lt HO6.out g e)
          have HO7 := Lib.hid ho7
          have HB7 := Lib.hid hb7
          have HA7 : Hid ((acc ++ [xv]).length = k + 1) := Lib.hid (by rw [List.length_append, HA.out]; rfl)
          obtain ⟨l7, c7, rfl⟩ := own_form ho7
          clear ho7 hg7 hor7 hb7
          go_wp2_with fail
          go_roundw
          case rel => exact ⟨k + 1, acc ++ [xv], by go_num, by omega, HA7, HFN, Lib.hid (by simpa using HO7.out), HB7⟩
          case measure => simp [RowKit.intOf]; omega
      · obtain rfl : k = n := by omega
        have hf := HF.out
        rw [List.drop_of_length_le (by rw [HPL.out]; exact Nat.le_refl _), nmF] at hf
        subst hf
        have HV := Lib.hid (view_of_own HO.out)
        have HB5 := Lib.hid (tr3 HBW.out HB.out)
        clear HF
        go_wp2_with fail
        go_ret2
        exact ⟨⟨_, rfl, HV.out⟩, HB5.out⟩
end Go.Proofs.YtflphnmmlaloeaaDoor.wd
