/- A store that is looked at: what its functions do, and what is seen (layer 9). -/
import Derived.Test.YtfigabjcmpakeaaSeen1
import Derived.Test.YtfigabjcmpakeaaFillX
import Derived.Test.YtfigabjcmpakeaaDoS
namespace Go.Proofs.Ytfigabjcmpakeaa.sn
open Go.ChangeShapes Go.WideShapes Go.ChangeAt Go.RowKit
open Go.Proofs.Ytfigabjcmpakeaa.fx
set_option linter.unusedVariables false
set_option linter.unusedSimpArgs false
def hv (V : Nat) : Value := .func (.func 24) #[] #[.pointer (some ⟨V, 0, none⟩)]
structure HS (w0 w : World) (S g V B : Nat) (vs : Value) (xs : List Int) (L : List SB) : Prop where
  st : fx.StoreH w S g xs (hv V)
  sn : SN w0 w V B vs L
  lt : S < B ∧ g < B ∧ S ≠ V ∧ g ≠ V ∧ w0.heap.size ≤ g ∧ w0.heap.size ≤ S
/-- All blocks but g, V and the row's stay. -/
def KG (g V : Nat) (r : Option Nat) (w w' : World) : Prop := w.heap.size ≤ w'.heap.size ∧ ∀ k, k < w.heap.size → k ≠ g → k ≠ V → some k ≠ r → w'.heap[k]? = w.heap[k]?
def NR (w : World) (vs vs' : Value) : Prop := vs'.ownBlock = vs.ownBlock ∨ ∃ k, vs'.ownBlock = some k ∧ w.heap.size ≤ k
def HP (w0 w : World) (S g V B : Nat) (vs : Value) (xs : List Int) (L : List SB) (w' : World) : Prop := ∃ vs', HS w0 w' S g V B vs' xs L ∧ KG g V vs.ownBlock w w' ∧ NR w vs vs'
theorem KG.of_kp {g V : Nat} {r : Option Nat} {w w' : World} (h : KP V r w w') : KG g V r w w' := ⟨h.1, fun k hk _ h1 h2 => h.2 k hk h1 h2⟩
theorem KG.from {g V : Nat} {r : Option Nat} {w w1 w' : World} (hb : Below w.heap.size w w1) (h : KG g V r w1 w') : KG g V r w w' :=
  ⟨Nat.le_trans hb.size h.1, fun k hk h1 h2 h3 => (h.2 k (Nat.lt_of_lt_of_le hk hb.size) h1 h2 h3).trans (hb.block k hk)⟩
theorem KG.set {g V i : Nat} {r : Option Nat} {w w1 : World} {v : Value} (h : KG g V r w w1) : KG g V r w (w1.setCell ⟨g, i, none⟩ v) := by
  refine ⟨?_, fun k hk h1 h2 h3 => ?_⟩
  · show _ ≤ (w1.heap.modify g _).size; rw [Array.size_modify]; exact h.1
  · show (w1.heap.modify g _)[k]? = _
    rw [Array.getElem?_modify, if_neg (fun e => h1 e.symm)]
    exact h.2 k hk h1 h2 h3
theorem KG.keep {g V : Nat} {r : Option Nat} {w w1 w2 : World} (h : KG g V r w w1) (hk : Keep g w1 w2) : KG g V r w w2 :=
  ⟨Nat.le_trans h.1 hk.1, fun k h0 h1 h2 h3 => (hk.2 k (Nat.lt_of_lt_of_le h0 h.1) h1).trans (h.2 k h0 h1 h2 h3)⟩
theorem KG.refl (g V : Nat) (r : Option Nat) (w : World) : KG g V r w w := ⟨Nat.le_refl _, fun _ _ _ _ _ => rfl⟩
theorem SN.keep {w0 w w' : World} {V B : Nat} {vs : Value} {L : List SB} (h : SN w0 w V B vs L) (hb : Below w0.heap.size w0 w') (hs : w.heap.size ≤ w'.heap.size) (h1 : w'.heap[V]? = w.heap[V]?) (h2 : ∀ k, vs.ownBlock = some k → w'.heap[k]? = w.heap[k]?) : SN w0 w' V B vs L :=
  ⟨hb, h1.trans h.c, row_keptS h.v h2, h.lt.1, h.lt.2.1, h.lt.2.2.1, Nat.le_trans h.lt.2.2.2 hs⟩
variable {w0 w w' : World} {S g V B : Nat} {vs : Value} {xs : List Int} {L : List SB}
theorem HS.below (h : HS w0 w S g V B vs xs L) (hb : Below w.heap.size w w') : HS w0 w' S g V B vs xs L :=
  ⟨h.st.below hb, h.sn.keep (h.sn.bl.trans (hb.mono h.sn.bl.size)) hb.size (hb.block V (by have := h.sn.lt; omega)) (fun k e => hb.block k (h.sn.v.lt k e).2), h.lt⟩
theorem HS.set (h : HS w0 w S g V B vs xs L) (i : Nat) (x : Int) : HS w0 (w.setCell ⟨g, i, none⟩ (.int .i64 x)) S g V B vs (xs.set i x) L := by
  have hm : ∀ k, k ≠ g → (w.setCell ⟨g, i, none⟩ (.int .i64 x)).heap[k]? = w.heap[k]? := fun k hk => by
    show (w.heap.modify g _)[k]? = _
    rw [Array.getElem?_modify, if_neg (fun e => hk e.symm)]
  refine ⟨h.st.set i x, h.sn.keep (h.sn.bl.setCell h.lt.2.2.2.2.1 _) ?_ (hm V (fun e => h.lt.2.2.2.1 e.symm)) (fun k e => hm k ?_), h.lt⟩
  · show _ ≤ (w.heap.modify g _).size; rw [Array.size_modify]; exact Nat.le_refl _
  · have := (h.sn.v.lt k e).1; have := h.lt.2.1; omega
theorem HS.fill (h : HS w0 w S g V B vs xs L) {ys : List Int} (hs : fx.StoreH w' S g ys (hv V)) (hk : Keep g w w') (hb : Below w0.heap.size w0 w') : HS w0 w' S g V B vs ys L :=
  ⟨hs, h.sn.keep hb hk.1 (hk.2 V (by have := h.sn.lt; omega) (fun e => h.lt.2.2.2.1 e.symm)) (fun k e => hk.2 k (h.sn.v.lt k e).2 (by have := (h.sn.v.lt k e).1; have := h.lt.2.1; omega)), h.lt⟩
/-- Behind what was seen. -/
theorem HS.seen (h : HS w0 w S g V B vs xs L) {vs' : Value} {L' : List SB} (hs : SN w0 w' V B vs' L') (hk : KP V vs.ownBlock w w') : HS w0 w' S g V B vs' xs L' := by
  have hn : ∀ k, k < B → some k ≠ vs.ownBlock := fun k hk e => by have := (h.sn.v.lt k e.symm).1; omega
  refine ⟨⟨?_, ?_, h.st.2.2⟩, hs, h.lt⟩
  · exact (hk.2 S (by have := h.sn.lt; have := h.lt; omega) h.lt.2.2.1 (hn S h.lt.1)).trans h.st.1
  · exact (hk.2 g (by have := h.sn.lt; have := h.lt; omega) h.lt.2.2.2.1 (hn g h.lt.2.1)).trans h.st.2.1
theorem neq_fn (V : Nat) (w : World) : (binOp .neq 43 (hv V) .nilFunc).run Try.prog w = .ok (.bool true) w := by unfold hv; kernel_rfl
theorem word_hs (i : Nat) (b : Bool) (h : HS w0 w S g V B vs xs L) (hi : i < xs.length) (hm : xs.length ≤ 300) (hL : L.length ≤ 1000) : Calls Try.prog 61 #[.pointer (some ⟨S, 0, none⟩), .int .i64 i, .bool b] w fun e w' => e = .returned (.pointer (some ⟨g, i, none⟩)) ∧ HP w0 w S g V B vs xs (L ++ [((i : Int), b)]) w' := by
  obtain ⟨h0, h1, _, _, _, _, _⟩ := h.st.facts
  have hn := neq_fn V
  have H := Lib.hid h
  have hi' := hi
  clear h
  unfold hv at h1 hn
  go_enter Try.func61, Try.ntmps61
  go_wp2_with (first | (go_at_call 23; refine (size_h S g xs _ _ H.out.st).mono ?_; rintro e w' ⟨rfl, rfl⟩))
  refine (show_of V B vs L i b w0 _ H.out.sn hL).mono ?_
  rintro e w1 ⟨rfl, vs', hs, hk, ho⟩
  have h2 := H.out.seen hs hk
  obtain ⟨f0, _, _, _, _, _, _⟩ := h2.st.facts
  have H2 := Lib.hid h2
  clear h2 h0 h1 hn
  go_wp2_with fail
  go_ret
  exact ⟨rfl, vs', H2.out, .of_kp hk, ho⟩
theorem word_ho (at_ : Int) (b : Bool) (h : HS w0 w S g V B vs xs L) (hat : at_ < 0 ∨ (xs.length : Int) ≤ at_) (hm : xs.length ≤ 300) : Calls Try.prog 61 #[.pointer (some ⟨S, 0, none⟩), .int .i64 at_, .bool b] w fun e w' => e = .returned (.pointer none) ∧ w = w' := by
  have H := Lib.hid h
  clear h
  by_cases h1 : at_ < 0
  · go_enter Try.func61, Try.ntmps61
    go_wp2_with (go_at_call 23; refine (size_h S g xs _ _ H.out.st).mono ?_; rintro e w' ⟨rfl, rfl⟩)
    go_ret
    exact ⟨rfl, rfl⟩
  · have h2 : 0 ≤ at_ := by omega
    have h3 : (xs.length : Int) ≤ at_ := by omega
    go_enter Try.func61, Try.ntmps61
    go_wp2_with (go_at_call 23; refine (size_h S g xs _ _ H.out.st).mono ?_; rintro e w' ⟨rfl, rfl⟩)
    go_ret
    exact ⟨rfl, rfl⟩
end Go.Proofs.Ytfigabjcmpakeaa.sn
