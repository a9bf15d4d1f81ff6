/- Operations' names; instructions that are the same (layer 3). -/
import Derived.Test.YtgkfnplgldigbaaDoorInD
namespace Go.Proofs.YtgkfnplgldigbaaDoor.ins
open Go.ChangeShapes Go.WideShapes Go.ChangeAt Go.RowKit
open Go.Proofs.YtgkfnplgldigbaaDoor.bin Go.Proofs.YtgkfnplgldigbaaDoor.bits
set_option linter.unusedVariables false
set_option linter.unusedSimpArgs false
def nmL : List (List UInt8) := [[114, 101, 116], [115, 101, 116], [109, 111, 118, 101], [97, 100, 100], [115, 117, 98], [109, 117, 108], [100, 105, 118], [109, 111, 100], [108, 101, 115, 115], [115, 97, 109, 101], [97, 110, 100], [111, 114], [120, 111, 114], [108, 111, 97, 100], [115, 116, 111, 114, 101], [102, 101, 116, 99, 104], [115, 119, 97, 112], [101, 109, 105, 116], [106, 117, 109, 112], [122, 101, 114, 111], [115, 112, 97, 119, 110], [115, 121, 110, 99], [112, 105, 112, 101], [119, 97, 105, 116], [99, 111, 110, 116], [98, 114, 101, 97, 107]]
def nm (k : Nat) : ByteArray := ⟨(nmL.getD k []).toArray⟩
/-- the names stand where the program has them -/
def NM (w : World) : Prop := ∀ k, k < 26 → w.cell? ⟨0, k, none⟩ = some (.string (nm k))
theorem NM.below {w w' : World} (h : NM w) (hb : Below w.heap.size w w') : NM w' := fun k hk => kc (h k hk) hb
theorem nm_inj : ∀ i, i < 26 → ∀ j, j < 26 → nmL.getD i [] = nmL.getD j [] → i = j := by decide
theorem nm_ne : ∀ i, i < 26 → nmL.getD i [] ≠ [] := by decide
theorem nm_inj' {i j : Nat} (hi : i < 26) (hj : j < 26) (h : nm i = nm j) : i = j := by
  unfold nm at h
  have h2 := congrArg (fun b => b.data.toList) h
  simp only [List.toList_toArray] at h2
  exact nm_inj i hi j hj h2
theorem name_v (k : Nat) (hk : k < 26) (w : World) (hN : NM w) : Calls Tryd.prog 31 #[.int .i64 (k : Int)] w fun e w' => e = .returned (.string (nm k)) ∧ w = w' := by
  have h := hN k hk
  have h1 : (k : Int) < 26 := by omega
  have h2 : ¬ (26 : Int) ≤ (k : Int) := by omega
  generalize nm k = s at h ⊢
  clear hN
  go_enter Tryd.func31, Tryd.ntmps31
  go_wp2_with fail
  go_ret
  exact ⟨rfl, rfl⟩
theorem name_no (op : Int) (h : op < 0 ∨ 25 < op) (w : World) : Calls Tryd.prog 31 #[.int .i64 op] w fun e w' => e = .returned (.string ⟨#[]⟩) ∧ w = w' := by
  by_cases h1 : op < 0
  · go_enter Tryd.func31, Tryd.ntmps31
    go_wp2_with fail
    go_ret
    exact ⟨rfl, rfl⟩
  · have h2 : (26 : Int) ≤ op := by omega
    go_enter Tryd.func31, Tryd.ntmps31
    go_wp2_with fail
    go_ret
    exact ⟨rfl, rfl⟩
theorem of_name (s : List UInt8) (k : Nat) (b : Bool) (w : World) (hN : NM w) (hk : Hid (∀ j, j < 26 → (nmL.getD j [] == s) = decide (b = true ∧ j = k))) (hb : b = true → k < 26) (hb2 : b = false → k = 0) : Calls Tryd.prog 22 #[.string ⟨s.toArray⟩] w fun e w' => e = .returned (.tuple #[.int .i64 (k : Int), .bool b]) ∧ w = w' := by
  have HN := Lib.hid hN
  have HB := Lib.hid (And.intro hb hb2)
  clear hN hb hb2
  go_enter Tryd.func22, Tryd.ntmps22
  go_wp2_with fail
  go_loop [5] (fun i => ∃ j : Nat, i = .int .i64 (j : Int) ∧ j ≤ 26 ∧ Hid (b = true → j ≤ k)) (fun i => 26 - (intOf i).toNat)
  case atStart => exact ⟨0, rfl, by omega, Lib.hid fun _ => by omega⟩
  case round =>
    obtain ⟨j, rfl, hj, HJ⟩ := hrel
    by_cases hlt : j < 26
    · have h : w.cell? ⟨0, j, none⟩ = some (.string ⟨(nmL.getD j []).toArray⟩) := HN.out j hlt
      have he := hk.out j hlt
      have hltI : (j : Int) < 26 := by omega
      by_cases hjk : b = true ∧ j = k
      · rw [decide_eq_true hjk] at he
        obtain ⟨rfl, rfl⟩ := hjk
        generalize nmL.getD j [] = n at h he
        go_wp2_with fail
        go_ret2
        exact ⟨rfl, rfl⟩
      · rw [decide_eq_false hjk] at he
        generalize nmL.getD j [] = n at h he
        have HJ1 : Hid (b = true → j + 1 ≤ k) := Lib.hid fun hb => by
          have := HJ.out hb
          have h2 : j ≠ k := fun e => hjk ⟨hb, e⟩
          omega
        go_wp2_with fail
        go_round
        case rel => exact ⟨j + 1, by go_num, by omega, HJ1⟩
        case measure => simp [intOf]; omega
    · obtain rfl : j = 26 := by omega
      have hbf : b = false := by
        cases b with
        | false => rfl
        | true => have := HJ.out rfl; have := HB.out.1 rfl; omega
      subst hbf
      obtain rfl := HB.out.2 rfl
      go_wp2_with fail
      go_ret2
      exact ⟨rfl, rfl⟩
theorem names_v (w : World) : Calls Tryd.prog 27 #[] w fun e w' => e = .returned (.slice (some ⟨w.heap.size, 0, none⟩) 26 26) ∧ (∀ k, k < 26 → w'.cell? ⟨w.heap.size, k, none⟩ = some (.string (nm k))) ∧ Below w.heap.size w w' := by
  have key : ∀ k, k < 26 → (w.alloc (.cells #[.string ⟨#[114, 101, 116]⟩, .string ⟨#[115, 101, 116]⟩, .string ⟨#[109, 111, 118, 101]⟩, .string ⟨#[97, 100, 100]⟩, .string ⟨#[115, 117, 98]⟩, .string ⟨#[109, 117, 108]⟩, .string ⟨#[100, 105, 118]⟩, .string ⟨#[109, 111, 100]⟩, .string ⟨#[108, 101, 115, 115]⟩, .string ⟨#[115, 97, 109, 101]⟩, .string ⟨#[97, 110, 100]⟩, .string ⟨#[111, 114]⟩, .string ⟨#[120, 111, 114]⟩, .string ⟨#[108, 111, 97, 100]⟩, .string ⟨#[115, 116, 111, 114, 101]⟩, .string ⟨#[102, 101, 116, 99, 104]⟩, .string ⟨#[115, 119, 97, 112]⟩, .string ⟨#[101, 109, 105, 116]⟩, .string ⟨#[106, 117, 109, 112]⟩, .string ⟨#[122, 101, 114, 111]⟩, .string ⟨#[115, 112, 97, 119, 110]⟩, .string ⟨#[115, 121, 110, 99]⟩, .string ⟨#[112, 105, 112, 101]⟩, .string ⟨#[119, 97, 105, 116]⟩, .string ⟨#[99, 111, 110, 116]⟩, .string ⟨#[98, 114, 101, 97, 107]⟩] 9)).cell? ⟨w.heap.size, k, none⟩ = some (.string (nm k)) := by
    intro k hk
    have h := heap_new w #[.string ⟨#[114, 101, 116]⟩, .string ⟨#[115, 101, 116]⟩, .string ⟨#[109, 111, 118, 101]⟩, .string ⟨#[97, 100, 100]⟩, .string ⟨#[115, 117, 98]⟩, .string ⟨#[109, 117, 108]⟩, .string ⟨#[100, 105, 118]⟩, .string ⟨#[109, 111, 100]⟩, .string ⟨#[108, 101, 115, 115]⟩, .string ⟨#[115, 97, 109, 101]⟩, .string ⟨#[97, 110, 100]⟩, .string ⟨#[111, 114]⟩, .string ⟨#[120, 111, 114]⟩, .string ⟨#[108, 111, 97, 100]⟩, .string ⟨#[115, 116, 111, 114, 101]⟩, .string ⟨#[102, 101, 116, 99, 104]⟩, .string ⟨#[115, 119, 97, 112]⟩, .string ⟨#[101, 109, 105, 116]⟩, .string ⟨#[106, 117, 109, 112]⟩, .string ⟨#[122, 101, 114, 111]⟩, .string ⟨#[115, 112, 97, 119, 110]⟩, .string ⟨#[115, 121, 110, 99]⟩, .string ⟨#[112, 105, 112, 101]⟩, .string ⟨#[119, 97, 105, 116]⟩, .string ⟨#[99, 111, 110, 116]⟩, .string ⟨#[98, 114, 101, 97, 107]⟩] 9
    simp only [World.cell?]
    rw [h]
    have hks : k = 0 ∨ k = 1 ∨ k = 2 ∨ k = 3 ∨ k = 4 ∨ k = 5 ∨ k = 6 ∨ k = 7 ∨ k = 8 ∨ k = 9 ∨ k = 10 ∨ k = 11 ∨ k = 12 ∨ k = 13 ∨ k = 14 ∨ k = 15 ∨ k = 16 ∨ k = 17 ∨ k = 18 ∨ k = 19 ∨ k = 20 ∨ k = 21 ∨ k = 22 ∨ k = 23 ∨ k = 24 ∨ k = 25 := by omega
    rcases hks with rfl | rfl | rfl | rfl | rfl | rfl | rfl | rfl | rfl | rfl | rfl | rfl | rfl | rfl | rfl | rfl | rfl | rfl | rfl | rfl | rfl | rfl | rfl | rfl | rfl | rfl <;> rfl
  have KEY := Lib.hid key
  clear key
  go_enter Tryd.func27, Tryd.ntmps27
  go_wp2_with fail
  go_ret
  exact ⟨rfl, KEY.out, by go_grown⟩
theorem ins_eq (a0 a1 a2 a3 c0 c1 c2 c3 : Int) (b : Bool) (w : World) (hb : (a0 == c0 && a1 == c1 && a2 == c2 && a3 == c3) = b) : (binOp .eql 23 (.agg #[.int .i64 a0, .int .i64 a1, .int .i64 a2, .int .i64 a3]) (.agg #[.int .i64 c0, .int .i64 c1, .int .i64 c2, .int .i64 c3])).run Tryd.prog w = .ok (.bool b) w := by
  have h : (Op.equalIn 10000 23 (.agg #[.int .i64 a0, .int .i64 a1, .int .i64 a2, .int .i64 a3]) (.agg #[.int .i64 c0, .int .i64 c1, .int .i64 c2, .int .i64 c3])).run Tryd.prog w = .ok b w := by
    rw [show (10000 : Nat) = 9999 + 1 from rfl, run_equalIn_struct w 9999 23 _ _ (by kernel_rfl) (by kernel_rfl)]
    rw [← hb]
    by_cases h0 : a0 = c0 <;> by_cases h1 : a1 = c1 <;> by_cases h2 : a2 = c2 <;> by_cases h3 : a3 = c3 <;> simp [go_sem, Tryd.underlying23, h0, h1, h2, h3]
  simp only [binOp]
  simp [Op.equal, Op.maxDepth, h]
end Go.Proofs.YtgkfnplgldigbaaDoor.ins
