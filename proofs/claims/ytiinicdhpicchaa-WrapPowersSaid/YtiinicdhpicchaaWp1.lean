/- Sums in any order and in pieces are sums at once; powers of sums of how often are products of powers: the law WrapPowers answers true. No condition. -/
import Derived.Test.YtiinicdhpicchaaPow
import Derived.Test.YtiinicdhpicchaaDo01
import Derived.Deep.RegionHeld3
import Derived.Deep.DrawnRows
import Derived.Outline
import Derived.Handy
namespace Go.Proofs.Ytiinicdhpicchaa.wrapPowers
open Go.ChangeShapes Go.WideShapes Go.ChangeAt Go.RowKit
open Go.Proofs.Ytiinicdhpicchaa.ref01
attribute [local go_sem ↓] Go.wp_at_zero Go.wp_at_succ
set_option linter.unusedVariables false
set_option linter.unusedSimpArgs false
theorem big (ad : Option Addr) (len cap : Nat) (a1 a2 a3 a4 : Int) (w : World) (h : 1000 < len) :
    Calls Try.prog 6 #[.slice ad len cap, .int .i64 a1, .int .i64 a2, .int .u8 a3, .int .u8 a4] w fun e w' => e = .returned (.bool true) ∧ Below w.heap.size w w' := by
  go_enter Try.func6, Try.ntmps6
  go_wp2_with (first | (go_at_call 10; refine (works_any _).mono ?_; rintro e w' ⟨rfl, hb1⟩))
  go_ret
  exact ⟨rfl, hb1⟩
theorem b_drew (w : World) : Below w.heap.size w w.drew := (Below.refl _ _).trans ⟨rfl, rfl, rfl, Nat.le_refl _, fun _ _ => rfl⟩
theorem bsz {w w' : World} (h : Below w.heap.size w w') : w.heap.size ≤ w'.heap.size := h.size
theorem made0 (w : World) (B : Nat) (h : B ≤ w.heap.size) : (w.alloc (.cells #[] 3)).ownsRow B 3 1 (.slice (some ⟨w.heap.size, 0, none⟩) 0 0) ([] : List Int).length (([] : List Int).map (Value.int .i64)) := ⟨rfl, .inr ⟨w.heap.size, 0, #[], rfl, h, heap_made w _, Nat.le_refl _, by simp [maxLen], rfl, rfl⟩⟩
set_option maxRecDepth 20000 in
set_option maxHeartbeats 4000000 in
theorem core (b off len cap : Nat) (xs : List Int) (a1 a2 : Int) (m n k : Nat) (w : World) (hv : View w (.slice (some ⟨b, off, none⟩) len cap) xs) (h0 : 0 < len) (h1 : len ≤ 1000) (hk : k < len)
    (hkk : IntKind.i64.wrap ((IntKind.u64.wrap a1).tmod len) = k) (hm : m ≤ 255) (hn : n ≤ 255) (l1 : -9223372036854775808 ≤ a2) (l2 : a2 ≤ 9223372036854775807) :
    Calls Try.prog 6 #[.slice (some ⟨b, off, none⟩) len cap, .int .i64 a1, .int .i64 a2, .int .u8 m, .int .u8 n] w fun e w' => e = .returned (.bool true) ∧ Below w.heap.size w w' := by
  obtain ⟨e1, e2, e3⟩ := hv.len
  have HV := Lib.hid hv
  have E1 := Lib.hid e1
  clear hv e1
  unfold maxLen at e3
  go_enter Try.func6, Try.ntmps6
  go_wp2_with fail
  refine (works_any _).mono ?_
  rintro e w1 ⟨rfl, hb1⟩
  have hv1 := HV.out.below hb1
  have HX := Lib.hid hv1
  clear hv1
  go_wp2_with (at_builtin; refine wpList_copy_row rfl _ _ rfl w1.heap.size w1.heap.size rfl ?o1 (Nat.le_refl _) xs ?v1 (by have := E1.out; omega) ?_)
  case o1 => exact heap_made w1 _
  case v1 => exact HX.out.below ((Below.refl _ _).alloc (Nat.le_refl _) _)
  intro mine w2 hown hb2
  have hbx : Below w1.heap.size w1 w2 := Below.trans (by go_grown) hb2
  have hb2' : Below w.heap.size w w2 := hb1.trans (hbx.mono hb1.size)
  have hv2 := HX.out.below hbx
  have hmine := view_of_own hown
  obtain ⟨g, o2, c2, rfl, hlc2⟩ : ∃ g o c, mine = .slice (some ⟨g, o, none⟩) len c ∧ len ≤ c := by
    rcases hmine.cases with ⟨h, _⟩ | ⟨_, g, o, c, h, h2, _⟩
    · have := E1.out; rw [h] at this; simp at this; omega
    · rw [← E1.out] at h h2; exact ⟨g, o, c, h, h2⟩
  clear hb1 hb2 hbx hown HX
  have hkc : ((k : Nat) : Int) ≤ (len : Int) := by omega
  have hk0 : (0 : Int) ≤ (k : Int) := by omega
  have hlc : (len : Int) ≤ (cap : Int) := by omega
  have hkcap : (k : Int) ≤ (cap : Int) := by omega
  have hne : ¬ cap = k := by omega
  go_wp2_with fail
  go_region_held3 (fun w' => Below w2.heap.size w2 w')
    (first | with_reducible assumption | exact b_drew w2 | exact Below.alloc (by assumption) (Below.size (by assumption)) _ | exact Below.trans (by assumption) (by assumption))
    (first | ((refine step_copy_view rfl _ _ (by rfl) w2.heap.size (.slice (some ⟨w2.heap.size, 0, none⟩) 0 0) [] ?hs ?hrow (.slice (some ⟨b, off + k, none⟩) (len - k) (cap - k)) (xs.drop k) ?hx ?hv ?hsm ?hB ?_; (case hs => rfl); (case hrow => exact made0 w2.drew _ (Nat.le_refl _)); (case hx => rfl); (case hv => exact (hv2.below (by with_reducible assumption)).drop k (by have := E1.out; omega)); (case hsm => simp only [List.length_drop, List.length_nil]; have := E1.out; omega); (case hB => simp); intro v1 w3 hrow1 hbw1))
           | ((refine step_copy_view rfl _ _ (by rfl) w2.heap.size v1 ([] ++ xs.drop k) ?hs ?hrow (.slice (some ⟨b, off, none⟩) k cap) (xs.take k) ?hx ?hv ?hsm ?hB ?_; (case hs => rfl); (case hrow => exact hrow1); (case hx => rfl); (case hv => exact (hv2.below (by with_reducible assumption)).take k (by have := E1.out; omega)); (case hsm => simp only [List.length_drop, List.length_nil, List.length_take, List.nil_append]; have := E1.out; omega); (case hB => exact bsz (w := w2) (by with_reducible assumption)); intro v2 w4 hrow2 hbw2)))
  have hH : Below w2.heap.size w2 w4 := by with_reducible assumption
  have hm4 := hmine.below hH
  have hb4 : Below w.heap.size w w4 := hb2'.trans (hH.mono hb2'.size)
  have hv4 : View w4 v2 (xs.drop k ++ xs.take k) := by have := view_of_own hrow2; simpa using this
  have hT := hm4.take k (by have := E1.out; omega)
  have hD := hm4.drop k (by have := E1.out; omega)
  have hSum : Hid (wrap64 (sumW (xs.take k) + sumW (xs.drop k)) = sumW xs) := Lib.hid (by rw [sum_app, List.take_append_drop])
  have hTurn : Hid (sumW (xs.drop k ++ xs.take k) = sumW xs) := Lib.hid (by rw [sum_comm, List.take_append_drop])
  have hne2 : ¬ c2 = k := by omega
  have hkc2 : (k : Int) ≤ (c2 : Int) := by omega
  have hlc2' : (len : Int) ≤ (c2 : Int) := by omega
  have M4 := Lib.hid hm4
  have V4 := Lib.hid hv4
  have T4 := Lib.hid hT
  have D4 := Lib.hid hD
  have B4 := Lib.hid hb4
  clear hm4 hv4 hT hD hb4 hH hrow2 hbw1 hbw2 hrow1 hv2 hmine hb2'
  generalize hA : sumW (xs.take k) = A at *
  generalize hDD : sumW (xs.drop k) = D at *
  generalize hS : sumW xs = S at *
  have HA := Lib.hid hA
  have HD := Lib.hid hDD
  have HS := Lib.hid hS
  clear hA hDD hS
  have P1 := Lib.hid (powW_one a2 l1 l2)
  have P2 := Lib.hid (powW_add a2 m n)
  have C1 : Hid (∀ q, Calls Try.prog 12 #[.slice (some ⟨g, o2, none⟩) k c2] (w4.drewN q) fun e w'' => e = .returned (.int .i64 A) ∧ ∃ m, w'' = w4.drewN m) := Lib.hid (fun q => by rw [← HA.out]; exact quiet_eq (sum_v _ _ _ (T4.out.drewN q)))
  have C2 : Hid (∀ q, Calls Try.prog 12 #[.slice (some ⟨g, o2 + k, none⟩) (len - k) (c2 - k)] (w4.drewN q) fun e w'' => e = .returned (.int .i64 D) ∧ ∃ m, w'' = w4.drewN m) := Lib.hid (fun q => by rw [← HD.out]; exact quiet_eq (sum_v _ _ _ (D4.out.drewN q)))
  have C3 : Hid (∀ q, Calls Try.prog 8 #[.int .i64 3, .int .i64 A, .int .i64 D] (w4.drewN q) fun e w'' => e = .returned (.tuple #[.int .i64 S, .int .i64 0]) ∧ ∃ m, w'' = w4.drewN m) := Lib.hid (fun q => quiet_eq (pdo_v 3 A D S 0 _ (Lib.hid (by rw [← hSum.out]; rfl))))
  go_wp2_with fail
  go_quiet ((first | (go_at_call 12; with_reducible exact C1.out _) | (go_at_call 12; with_reducible exact C2.out _) | (go_at_call 8; with_reducible exact C3.out _)))
  rename_i q0
  have q1 : Hid (IntKind.i64.wrap ((m : Int) + (n : Int)) = ((m + n : Nat) : Int)) := Lib.hid (by rw [IntKind.wrap_i64]; omega)
  have C4 : Hid (∀ (w : World), Calls Try.prog 8 #[.int .i64 5, .int .i64 (powW a2 m), .int .i64 (powW a2 n)] w fun e w' => e = .returned (.tuple #[.int .i64 (powW a2 (m + n)), .int .i64 0]) ∧ w = w') := Lib.hid (fun w => pdo_v 5 _ _ _ 0 _ (Lib.hid (by rw [← P2.out]; rfl)))
  go_wp2_with fail
  refine (pow_k a2 m _ (by omega)).mono ?_
  rintro e wz ⟨rfl, rfl⟩
  go_wp2_with fail
  refine (pow_k a2 n _ (by omega)).mono ?_
  rintro e wz ⟨rfl, rfl⟩
  go_wp2_with fail
  refine (C4.out _).mono ?_
  rintro e wz ⟨rfl, rfl⟩
  go_wp2_with fail
  refine (sum_v _ _ _ (M4.out.drewN _)).mono ?_
  rintro e wz ⟨rfl, rfl⟩
  rw [HS.out]
  go_wp2_with fail
  refine (sum_v _ _ _ (V4.out.drewN _)).mono ?_
  rintro e wz ⟨rfl, rfl⟩
  rw [hTurn.out]
  go_wp2_with fail
  refine (pow_k a2 (m + n) _ (by omega)).mono ?_
  rintro e wz ⟨rfl, rfl⟩
  go_wp2_with fail
  refine (pow_k a2 1 _ (by omega)).mono ?_
  rintro e wz ⟨rfl, rfl⟩
  rw [P1.out]
  go_wp2_with fail
  refine (pow_mm a2 (-1) 0 _ (by omega) 0 (by decide) (by decide)).mono ?_
  rintro e wz ⟨rfl, rfl⟩
  go_wp2_with fail
  refine (pow_mm a2 2000 1000 _ (by omega) 2000 (by decide) (by decide)).mono ?_
  rintro e wz ⟨rfl, rfl⟩
  go_wp2_with fail
  refine (pow_k a2 1000 _ (by omega)).mono ?_
  rintro e wz ⟨rfl, rfl⟩
  go_wp2_with fail
  go_ret
  exact ⟨rfl, B4.out.trans (below_drewN (Below.refl _ _) _)⟩
end Go.Proofs.Ytiinicdhpicchaa.wrapPowers
