/- Predecessors in memory of their own (layer 31). -/
import Derived.Test.YtpflimnngilhnaaRhC
namespace Go.Proofs.Ytpflimnngilhnaa.rh
open Go.ChangeShapes Go.WideShapes Go.ChangeAt Go.RowKit
set_option linter.unusedVariables false
set_option linter.unusedSimpArgs false
def OwnPost (w : World) (L : List (List Int)) (e : Ending) (w' : World) : Prop := ∃ v, e = .returned v ∧ MV w' v L ∧ Below w.heap.size w w'
theorem take_snocL (L : List (List Int)) (k : Nat) (h : k < L.length) : L.take (k + 1) = L.take k ++ [L.getD k []] := by
  rw [List.take_add_one, List.getElem?_eq_getElem h]
  simp [List.getD_eq_getElem?_getD, List.getElem?_eq_getElem h]
set_option maxRecDepth 20000 in
set_option maxHeartbeats 1000000 in
theorem own_of (a : Option Addr) (n cap : Nat) (L : List (List Int)) (w : World) (h : MV w (.slice a n cap) L) (hn : n ≤ 2000) (hr : ∀ i, i < n → (L.getD i []).length ≤ 1000) :
    Calls Try.prog 14 #[.slice a n cap] w (OwnPost w L) := by
  obtain ⟨hnl, hnc, hcm⟩ := h.len
  have H := Lib.hid h
  have HN := Lib.hid hnl
  have HR := Lib.hid hr
  have h0 : Hid (OM w w.heap.size (.slice none 0 0) [] (L.take 0)) := Lib.hid (OM.nil w _)
  clear h hnl hr hcm
  go_enter Try.func14, Try.ntmps14
  go_wp2_with fail
  go_loopw [3, 4] (fun v i wr => ∃ (k : Nat) (rows : List Value), k ≤ n ∧ i = .int .i64 (k : Int) ∧ Hid (OM wr w.heap.size v rows (L.take k)) ∧ Hid (Below w.heap.size w wr)) (fun _ i _ => n - (intOf i).toNat)
  case atStart => exact ⟨0, [], by omega, rfl, h0, Lib.hid (Below.refl _ _)⟩
  case round =>
    clear h0
    obtain ⟨k, rows, hk, rfl, HO, HB⟩ := hrel
    by_cases hlt : k < n
    · obtain ⟨b, o, ai, ci, rfl, hbl, hc, hv⟩ := (H.out.below HB.out).row k hlt
      have hsz := HB.out.size
      have hm := HR.out k hlt
      have hbl2 : b < wr.heap.size := hbl
      have hV0 := Lib.hid (hv.below (w' := wr.alloc (.cells #[] 3)) ((Below.refl _ _).alloc (Nat.le_refl _) _))
      have hTS := Lib.hid (take_snocL L k (by rw [← HN.out]; exact hlt))
      have hTL : Hid ((L.take k).length = k) := Lib.hid (by rw [List.length_take, ← HN.out]; omega)
      clear hv
      obtain ⟨xs, hxs⟩ : ∃ xs, L.getD k [] = xs := ⟨_, rfl⟩
      rw [hxs] at hc hm hV0 hTS
      have hz0 : w.heap.size ≤ wr.heap.size := hsz
      clear hxs
      go_wp2_with ((at_builtin; refine wpList_copy_row rfl _ _ rfl wr.heap.size wr.heap.size rfl (heap_alloc_new _ _) (Nat.le_refl _) xs hV0.out (by omega) ?_))
      intro v1 W2 hr1 hb1
      have hb2 : Below wr.heap.size wr W2 := ((Below.refl _ _).alloc (Nat.le_refl _) _).trans hb1
      have hO1 : OI W2 w.heap.size v1 xs := OI.base (B := wr.heap.size) hr1 hz0
      have hs2 := hb2.size
      obtain ⟨av, cv, rfl, _⟩ := OI.form hO1
      have hn2 : Below W2.heap.size W2 (W2.alloc (.cells #[.slice av xs.length cv] 24)) := (Below.refl _ _).alloc (Nat.le_refl _) _
      have HOI := Lib.hid (hO1.below hn2)
      have HOM := Lib.hid ((HO.out.below hb2).below hn2)
      have hz2 : w.heap.size ≤ (W2.alloc (.cells #[.slice av xs.length cv] 24)).heap.size := by simp; omega
      have HBW : Hid (Below w.heap.size w (W2.alloc (.cells #[.slice av xs.length cv] 24))) := Lib.hid ((HB.out.trans (hb2.mono hz0)).trans (hn2.mono (by omega)))
      clear hr1 hb1 hb2 hO1 hn2 hV0 hc
      go_wp2_with ((at_builtin; refine wpList_app41 rfl _ _ rfl w.heap.size _ rows (L.take k) rfl ⟨W2.heap.size, 0, none⟩ 1 rfl (.slice av xs.length cv) xs HOM.out (by go_simp) HOI.out rfl (by rw [hTL.out]; omega) hz2 ?_))
      intro v2 W3 hr2 hg2 ho2
      rw [← hTS.out] at hr2
      have hO3 := Lib.hid hr2
      have hB3 : Hid (Below w.heap.size w W3) := Lib.hid (HBW.out.grown hg2 hz2 (fun q e => (own_lt41 HOM.out.1 q e).1))
      clear hr2 hg2 ho2 HOI HOM HBW HO HB hTS
      go_wp2_with fail
      go_roundw
      case rel => exact ⟨k + 1, _, by omega, by go_num, hO3, hB3⟩
      case measure => simp [intOf]; omega
    · obtain rfl : k = n := by omega
      have hm := HO.out.mv
      rw [List.take_of_length_le (by rw [HN.out]; omega)] at hm
      obtain ⟨a2, c2, rfl, _⟩ := hm.form
      have HM := Lib.hid hm
      clear hm
      go_wp2_with fail
      go_ret
      exact ⟨_, rfl, HM.out, HB.out⟩
end Go.Proofs.Ytpflimnngilhnaa.rh
