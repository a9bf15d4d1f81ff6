/- Contracts of a store that is younger than a first world; Store in and out of its words; and what All handed out. -/
import Derived.Test.YtfigabjcmpakeaaStoreAll
namespace Go.Proofs.Ytfigabjcmpakeaa
open Go.ChangeShapes Go.WideShapes Go.ChangeAt Go.RowKit
set_option linter.unusedVariables false
theorem word_out (S g : Nat) (xs : List Int) (at_ : Int) (b : Bool) (w : World) (h : StoreAt w S g xs) (hat : at_ < 0 ∨ (xs.length : Int) ≤ at_) : Calls Try.prog 61 #[.pointer (some ⟨S, 0, none⟩), .int .i64 at_, .bool b] w fun e w' => e = .returned (.pointer none) ∧ w = w' := by
  obtain ⟨h0, h1, _, _, _, _⟩ := h.facts
  have H := Lib.hid h
  clear h
  by_cases h2 : at_ < 0
  · clear hat
    go_enter Try.func61, Try.ntmps61
    go_wp2_with (go_at_call 23; refine (size_any S g xs _ H.out).mono ?_; rintro e w' ⟨rfl, rfl⟩)
    go_ret
    exact ⟨rfl, rfl⟩
  · have h3 : (xs.length : Int) ≤ at_ := by omega
    clear hat
    go_enter Try.func61, Try.ntmps61
    go_wp2_with (go_at_call 23; refine (size_any S g xs _ H.out).mono ?_; rintro e w' ⟨rfl, rfl⟩)
    go_ret
    exact ⟨rfl, rfl⟩
theorem store_out (S g : Nat) (xs : List Int) (at_ n : Int) (w : World) (h : StoreAt w S g xs) (hat : at_ < 0 ∨ (xs.length : Int) ≤ at_) : Calls Try.prog 25 #[.pointer (some ⟨S, 0, none⟩), .int .i64 at_, .int .i64 n] w fun e w' => e = .returned (.bool false) ∧ w = w' := by
  have H := Lib.hid h
  have HA := Lib.hid hat
  clear h hat
  go_enter Try.func25, Try.ntmps25
  go_wp2_with (go_at_call 61; refine (word_out S g xs at_ _ _ H.out HA.out).mono ?_; rintro e w' ⟨rfl, rfl⟩)
  go_ret
  exact ⟨rfl, rfl⟩
theorem store_in (S g : Nat) (xs : List Int) (at_ : Nat) (n : Int) (w : World) (h : StoreAt w S g xs) (hat : at_ < xs.length) (hm : xs.length ≤ 1048576) : Calls Try.prog 25 #[.pointer (some ⟨S, 0, none⟩), .int .i64 at_, .int .i64 n] w fun e w' => e = .returned (.bool true) ∧ w.setCell ⟨g, at_, none⟩ (.int .i64 n) = w' := by
  obtain ⟨_, _, h2, h3, _, _⟩ := h.facts
  have hc := h2 at_ hat
  have hf := h3 at_
  clear h2 h3
  generalize hx : xs.getD at_ 0 = x at *
  go_enter Try.func25, Try.ntmps25
  go_wp2_with (go_at_call 61; refine (word_in S g xs at_ _ _ h hat hm).mono ?_; rintro e w' ⟨rfl, rfl⟩)
  go_ret
  exact ⟨rfl, rfl⟩
def J (w0 w : World) (S g : Nat) (xs : List Int) : Prop := StoreAt w S g xs ∧ Below w0.heap.size w0 w ∧ w0.heap.size ≤ g
theorem J.set {w0 w w' : World} {S g : Nat} {xs : List Int} (h : J w0 w S g xs) (i : Nat) (x : Int) (hw : w.setCell ⟨g, i, none⟩ (.int .i64 x) = w') : J w0 w' S g (xs.set i x) := by
  subst hw
  exact ⟨h.1.set i x, h.2.1.setCell h.2.2 _, h.2.2⟩
theorem J.below {w0 w w' : World} {S g : Nat} {xs : List Int} (h : J w0 w S g xs) (hb : Below w.heap.size w w') : J w0 w' S g xs :=
  ⟨h.1.below hb, h.2.1.trans (hb.mono h.2.1.size), h.2.2⟩
theorem new_j (n : Nat) (w0 w : World) (hb : Below w0.heap.size w0 w) (hn : n ≤ 1048576) : Calls Try.prog 16 #[.int .i64 n] w fun e w' => ∃ S g, e = .returned (.pointer (some ⟨S, 0, none⟩)) ∧ J w0 w' S g (List.replicate n 0) := by
  refine (new_n n w hn).mono ?_
  rintro e w' ⟨rfl, hs, hb'⟩
  exact ⟨_, _, rfl, hs, hb.trans (hb'.mono hb.size), hb.size⟩
/-- A slice that reads as xs and lies elsewhere than in block g. -/
def Was (w : World) (a : Option Addr) (xs : List Int) (g : Nat) : Prop := ∀ i, i < xs.length → ∃ b off, a = some ⟨b, off, none⟩ ∧ g ≠ b ∧ w.cell? ⟨b, off + i, none⟩ = some (.int .i64 (xs.getD i 0))
theorem setCell_cell_ne (w : World) (p q : Addr) (v : Value) (h : p.block ≠ q.block) : (w.setCell p v).cell? q = w.cell? q := by
  have hh : (w.setCell p v).heap[q.block]? = w.heap[q.block]? := by
    show (w.heap.modify p.block _)[q.block]? = _
    rw [Array.getElem?_modify, if_neg h]
  simp [World.cell?, hh]
def L (w0 w : World) (S g : Nat) (a : Option Addr) (xs ys : List Int) : Prop := J w0 w S g xs ∧ Was w a ys g
theorem all_l (S g n : Nat) (xs : List Int) (w0 w : World) (h : J w0 w S g xs) (hn : Hid (xs.length = n)) (hsm : n ≤ 100000) : Calls Try.prog 21 #[.pointer (some ⟨S, 0, none⟩)] w fun e w' => ∃ a cap, e = .returned (.slice a n cap) ∧ L w0 w' S g a xs xs := by
  have e := hn.out
  subst e
  obtain ⟨_, _, _, _, _, hg⟩ := h.1.facts
  refine (all_any S g xs w h.1 hsm).mono ?_
  rintro e w' ⟨v, rfl, h1, h2⟩
  obtain ⟨_, h1⟩ := h1
  rcases h1 with ⟨rfl, h0⟩ | ⟨b, cap, cur, rfl, hB, hb, hle, hm, hsz, htk⟩
  · refine ⟨none, 0, by rw [h0], h.below h2, fun i hi => ?_⟩
    omega
  · refine ⟨_, cap, rfl, h.below h2, fun i hi => ⟨b, 0, rfl, by omega, ?_⟩⟩
    have h1 : cur.toList[i]? = some (Value.int .i64 (xs.getD i 0)) := by
      have h2 := congrArg (fun l => l[i]?) htk
      simp only [Nat.mul_one] at h2
      rw [List.getElem?_take_of_lt hi] at h2
      rw [h2]; simp [hi]
    have h3 : cur[i]? = some (Value.int .i64 (xs.getD i 0)) := by simpa using h1
    rw [Nat.zero_add]
    simp [World.cell?, hb, h3]
theorem store_l (S g n at_ : Nat) (x : Int) (a : Option Addr) (xs ys : List Int) (w0 w : World) (h : L w0 w S g a xs ys) (hn : Hid (xs.length = n)) (hat : at_ < n) (hm : n ≤ 100000) : Calls Try.prog 25 #[.pointer (some ⟨S, 0, none⟩), .int .i64 at_, .int .i64 x] w fun e w' => e = .returned (.bool true) ∧ L w0 w' S g a (xs.set at_ x) ys := by
  refine (store_in S g xs at_ x w h.1.1 (by rw [hn.out]; exact hat) (by rw [hn.out]; omega)).mono ?_
  rintro e w' ⟨he, hw⟩
  refine ⟨he, h.1.set _ _ hw, fun i hi => ?_⟩
  obtain ⟨b, off, ha, hb, hc⟩ := h.2 i hi
  refine ⟨b, off, ha, hb, ?_⟩
  rw [← hw, setCell_cell_ne w _ ⟨b, off + i, none⟩ _ hb]
  exact hc
theorem load_l (S g n at_ : Nat) (x : Int) (a : Option Addr) (xs ys : List Int) (w0 w : World) (h : L w0 w S g a xs ys) (hn : Hid (xs.length = n)) (hx : Hid (xs.getD at_ 0 = x)) (hat : at_ < n) (hm : n ≤ 100000) : Calls Try.prog 26 #[.pointer (some ⟨S, 0, none⟩), .int .i64 at_] w fun e w' => e = .returned (.tuple #[.int .i64 x, .bool true]) ∧ w = w' := by
  rw [← hx.out]
  exact load_in S g xs at_ w h.1.1 (by rw [hn.out]; exact hat) (by rw [hn.out]; omega)
end Go.Proofs.Ytfigabjcmpakeaa
