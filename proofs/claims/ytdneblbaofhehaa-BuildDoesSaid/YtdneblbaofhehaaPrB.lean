/- What is wrong with numbers of words, functions, instructions; where instructions lead (layer 4). -/
import Derived.Test.YtdneblbaofhehaaPrA
namespace Go.Proofs.Ytdneblbaofhehaa.pr
open Go.ChangeShapes Go.WideShapes Go.ChangeAt Go.RowKit
open Go.Proofs.Ytdneblbaofhehaa.bin Go.Proofs.Ytdneblbaofhehaa.bits Go.Proofs.Ytdneblbaofhehaa.ins
set_option linter.unusedVariables false
set_option linter.unusedSimpArgs false
def cntE (m : Int) (n : Nat) : Int := if m < 0 ∨ 256 < m then 3 else if n = 0 then 7 else if 16 < n then 9 else 0
def lenE (n : Nat) : Int := if n = 0 then 7 else if 200 < n then 9 else 0
theorem counts_v (m : Int) (n : Nat) (c : Int) (w : World) (h : cntE m n = c) : Calls Try.prog 26 #[.int .i64 m, .int .i64 (n : Int)] w fun e w' => e = .returned (.int .i64 c) ∧ w = w' := by
  unfold cntE at h
  by_cases h1 : m < 0
  · rw [if_pos (.inl h1)] at h
    subst h
    go_enter Try.func26, Try.ntmps26
    go_wp2_with fail
    go_ret
    exact ⟨rfl, rfl⟩
  · by_cases h2 : 256 < m
    · rw [if_pos (.inr h2)] at h
      subst h
      go_enter Try.func26, Try.ntmps26
      go_wp2_with fail
      go_ret
      exact ⟨rfl, rfl⟩
    · rw [if_neg (by omega)] at h
      by_cases h3 : n = 0
      · rw [if_pos h3] at h
        subst h
        subst h3
        go_enter Try.func26, Try.ntmps26
        go_wp2_with fail
        go_ret
        exact ⟨rfl, rfl⟩
      · rw [if_neg h3] at h
        have h3b : ((n : Int) == 0) = false := by simp; omega
        by_cases h4 : 16 < n
        · rw [if_pos h4] at h
          subst h
          have h4I : (16 : Int) < (n : Int) := by omega
          go_enter Try.func26, Try.ntmps26
          go_wp2_with fail
          go_ret
          exact ⟨rfl, rfl⟩
        · rw [if_neg h4] at h
          subst h
          have h4I : ¬ (16 : Int) < (n : Int) := by omega
          go_enter Try.func26, Try.ntmps26
          go_wp2_with fail
          go_ret
          exact ⟨rfl, rfl⟩
theorem len_v (n : Nat) (c : Int) (w : World) (h : lenE n = c) : Calls Try.prog 30 #[.int .i64 (n : Int)] w fun e w' => e = .returned (.int .i64 c) ∧ w = w' := by
  unfold lenE at h
  by_cases h3 : n = 0
  · rw [if_pos h3] at h
    subst h
    subst h3
    go_enter Try.func30, Try.ntmps30
    go_wp2_with fail
    go_ret
    exact ⟨rfl, rfl⟩
  · rw [if_neg h3] at h
    have h3b : ((n : Int) == 0) = false := by simp; omega
    by_cases h4 : 200 < n
    · rw [if_pos h4] at h
      subst h
      have h4I : (200 : Int) < (n : Int) := by omega
      go_enter Try.func30, Try.ntmps30
      go_wp2_with fail
      go_ret
      exact ⟨rfl, rfl⟩
    · rw [if_neg h4] at h
      subst h
      have h4I : ¬ (200 : Int) < (n : Int) := by omega
      go_enter Try.func30, Try.ntmps30
      go_wp2_with fail
      go_ret
      exact ⟨rfl, rfl⟩
def ldL : List UInt8 → List Int → Nat → Nat → Bool
  | [], _, _, _ => true
  | c :: f, n :: fs, p, q => if (c = 116 ∧ (p : Int) ≤ n) ∨ (c = 102 ∧ (q : Int) ≤ n) then false else ldL f fs p q
  | _ :: _, [], _, _ => true
def leadsI (op A B C : Int) (p q : Nat) : Bool := ldL (frmI op) (three A B C) p q
set_option maxRecDepth 20000 in
set_option maxHeartbeats 4000000 in
theorem leads_v (op A B C : Int) (p q : Nat) (r : Bool) (w : World) (hr : leadsI op A B C p q = r) :
    Calls Try.prog 32 #[.agg #[.int .i64 op, .int .i64 A, .int .i64 B, .int .i64 C], .int .i64 (p : Int), .int .i64 (q : Int)] w fun e w' => e = .returned (.bool r) ∧ Below w.heap.size w w' := by
  obtain ⟨hl, hL0⟩ := frmI_ok op
  have hf := pf_of op
  unfold leadsI at hr
  obtain ⟨f, hfe⟩ : ∃ f, frmI op = f := ⟨_, rfl⟩
  rw [hfe] at hl hL0 hf hr
  have hL := Lib.hid hL0
  replace hf := Lib.hid hf
  obtain ⟨W, hW⟩ : ∃ W, (w.alloc (.cells #[.int .i64 op, .int .i64 A, .int .i64 B, .int .i64 C] 33)).alloc (.cells #[.int .i64 A, .int .i64 B, .int .i64 C] 83) = W := ⟨_, rfl⟩
  have hb0 : Below w.heap.size w W := by rw [← hW]; go_grown
  have hs0 : W.heap.size = w.heap.size + 1 + 1 := by rw [← hW]; simp
  have hcell : W.heap[w.heap.size + 1]? = some (.cells #[.int .i64 A, .int .i64 B, .int .i64 C] 83 (0, 0)) := by
    rw [← hW]
    have := heap_new (w.alloc (.cells #[.int .i64 op, .int .i64 A, .int .i64 B, .int .i64 C] 33)) #[.int .i64 A, .int .i64 B, .int .i64 C] 83
    simpa using this
  have HCL : Hid (∀ (pos i : Nat), i < 3 → (W.iter ⟨f.toArray⟩ pos).cell? ⟨w.heap.size + 1, i, none⟩ = some (.int .i64 ((three A B C).getD i 0))) := Lib.hid fun pos i hi => by
    refine kc (W := W) (three_cell (w := W) hcell i hi) ?_
    unfold World.iter; go_grown
  have HB0 := Lib.hid hb0
  have HW := Lib.hid hW
  have hc0 : Hid (ldL (f.drop 0) ((three A B C).drop 0) p q = r) := Lib.hid (by simpa using hr)
  have hfs := str_size f
  have HBI : Hid (∀ pos, Below w.heap.size w (W.iter ⟨f.toArray⟩ pos)) := Lib.hid fun pos => tr3 hb0 (iter_below W ⟨f.toArray⟩ 0 pos)
  clear hr hW hcell hb0 hL0 hfe
  go_enter Try.func32, Try.ntmps32
  go_wp2_with (first | (go_at_call 36; (refine (hf.out _).mono ?_); rintro e w' ⟨rfl, rfl⟩))
  rw [HW.out]
  go_loopw [22] (fun _ wr => ∃ pos, wr = W.iter ⟨f.toArray⟩ pos ∧ pos ≤ f.length ∧ Hid (ldL (f.drop pos) ((three A B C).drop pos) p q = r)) (fun _ wr => f.length - wr.iterPos (w.heap.size + 1 + 1))
  case atStart => exact ⟨0, rfl, by omega, hc0⟩
  case round =>
    clear hc0
    obtain ⟨pos, rfl, hpl, HC⟩ := hrel
    by_cases hlt : pos < f.length
    · have hps : pos < (⟨f.toArray⟩ : ByteArray).size := by rw [hfs]; exact hlt
      have hxL : Lt (f.getD pos 0) := getD_Lt hL.out hlt
      have hat := str_at f pos hps
      have hd : f.drop pos = f.getD pos 0 :: f.drop (pos + 1) := drop_at f 0 pos hlt
      have hd3 : (three A B C).drop pos = (three A B C).getD pos 0 :: (three A B C).drop (pos + 1) := drop_at _ 0 pos (by simp [three]; omega)
      have hcl := fun pos' => HCL.out pos' pos (by omega)
      obtain ⟨x, hx⟩ : ∃ x, f.getD pos 0 = x := ⟨_, rfl⟩
      obtain ⟨n, hn⟩ : ∃ n, (three A B C).getD pos 0 = n := ⟨_, rfl⟩
      rw [hx] at hxL hat hd
      rw [hn] at hd3 hcl
      have hc1 := HC.out
      rw [hd, hd3, ldL] at hc1
      have hnx : ∀ ty, (Instr.next (.pointer (some ⟨w.heap.size + 1 + 1, 0, none⟩)) true ty).run Try.prog (W.iter ⟨f.toArray⟩ pos) = .ok (.tuple #[.bool true, .int .i64 pos, .int .i32 (x.toNat : Int)]) (W.iter ⟨f.toArray⟩ (pos + 1)) := fun ty => by
        rw [← hs0, ← hat]
        exact run_next_ascii (P := Try.prog) W ⟨f.toArray⟩ pos ty hps (by rw [hat]; exact lt_128 x hxL)
      have hplI : (pos : Int) < (f.length : Int) := by omega
      have hp3 : (pos : Int) < 3 := by omega
      have him : (W.iter ⟨f.toArray⟩ pos).iterPos (w.heap.size + 1 + 1) = pos := iter_pos W ⟨f.toArray⟩ 0 pos _ hs0
      have him2 : (W.iter ⟨f.toArray⟩ (pos + 1)).iterPos (w.heap.size + 1 + 1) = pos + 1 := iter_pos W ⟨f.toArray⟩ 0 (pos + 1) _ hs0
      have HM := Lib.hid (And.intro him him2)
      clear hx hn hd hd3 HC him him2
      by_cases h1 : x = 116
      · have e1 : ((x.toNat : Int) == 116) = true := by rw [h1]; rfl
        have e2 : ((x.toNat : Int) == 102) = false := by rw [h1]; rfl
        by_cases h2 : (p : Int) ≤ n
        · rw [if_pos (.inl ⟨h1, h2⟩)] at hc1
          subst hc1
          clear hxL h1
          go_wp2_with fail
          go_ret
          exact ⟨rfl, HBI.out _⟩
        · rw [if_neg (by rintro (⟨_, h⟩ | ⟨h, _⟩); exact h2 h; rw [h1] at h; exact absurd h (by decide))] at hc1
          have HC1 := Lib.hid hc1
          have hge : decide ((p : Int) ≤ n) = false := by simp; omega
          clear hxL h1 hc1
          go_wp2_with fail
          go_roundw
          case rel => exact ⟨pos + 1, rfl, by omega, HC1⟩
          case measure => rw [HM.out.1, HM.out.2]; omega
      · have hxb : ∀ y : UInt8, x ≠ y → ((x.toNat : Int) == (y.toNat : Int)) = false := fun y hy => by
          have : ¬ x.toNat = y.toNat := fun h => hy (UInt8.toNat_inj.1 h)
          simp; omega
        have e1 : ((x.toNat : Int) == 116) = false := hxb 116 h1
        by_cases h3 : x = 102
        · have e2 : ((x.toNat : Int) == 102) = true := by rw [h3]; rfl
          by_cases h2 : (q : Int) ≤ n
          · rw [if_pos (.inr ⟨h3, h2⟩)] at hc1
            subst hc1
            clear hxL h1 h3 hxb
            go_wp2_with fail
            go_ret
            exact ⟨rfl, HBI.out _⟩
          · rw [if_neg (by rintro (⟨h, _⟩ | ⟨_, h⟩); exact h1 h; exact h2 h)] at hc1
            have HC1 := Lib.hid hc1
            have hge : decide ((q : Int) ≤ n) = false := by simp; omega
            clear hxL h1 h3 hc1 hxb
            go_wp2_with fail
            go_roundw
            case rel => exact ⟨pos + 1, rfl, by omega, HC1⟩
            case measure => rw [HM.out.1, HM.out.2]; omega
        · have e2 : ((x.toNat : Int) == 102) = false := hxb 102 h3
          rw [if_neg (by rintro (⟨h, _⟩ | ⟨h, _⟩); exact h1 h; exact h3 h)] at hc1
          have HC1 := Lib.hid hc1
          clear hxL h1 h3 hc1 hxb
          go_wp2_with fail
          go_roundw
          case rel => exact ⟨pos + 1, rfl, by omega, HC1⟩
          case measure => rw [HM.out.1, HM.out.2]; omega
    · obtain rfl : pos = f.length := by omega
      have hnx : ∀ ty, (Instr.next (.pointer (some ⟨w.heap.size + 1 + 1, 0, none⟩)) true ty).run Try.prog (W.iter ⟨f.toArray⟩ f.length) = .ok (.tuple #[.bool false]) (W.iter ⟨f.toArray⟩ f.length) := fun ty => by
        rw [← hs0]
        exact run_next_end (P := Try.prog) W ⟨f.toArray⟩ f.length ty (by rw [hfs]; omega)
      have hrt : r = true := by have := HC.out; rw [List.drop_length] at this; exact this.symm
      subst hrt
      clear HC
      go_wp2_with fail
      go_ret
      exact ⟨rfl, HBI.out _⟩
end Go.Proofs.Ytdneblbaofhehaa.pr
