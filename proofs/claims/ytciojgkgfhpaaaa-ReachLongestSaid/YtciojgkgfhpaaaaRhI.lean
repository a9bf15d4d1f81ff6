/- The longest row, as the document reckons it (layer 31). -/
import Derived.Test.YtciojgkgfhpaaaaRhH
namespace Go.Proofs.Ytciojgkgfhpaaaa.rh
open Go.ChangeShapes Go.WideShapes Go.ChangeAt Go.RowKit
set_option linter.unusedVariables false
set_option linter.unusedSimpArgs false
/-- what is known is right. -/
def GK (L : List (List Int)) (g : Nat → Nat) : Prop := ∀ i, g i = 0 ∨ g i = ht L i
def RwPost (L : List (List Int)) (S n b : Nat) (w : World) (e : Ending) (w' : World) : Prop :=
  e = .returned (.int .i64 ((ht L b : Nat) : Int)) ∧ ∃ g, NR w' S n g ∧ GK L g ∧ Below w.heap.size w w'
set_option maxRecDepth 20000 in
set_option maxHeartbeats 1000000 in
theorem row_of (a : Option Addr) (n cap S : Nat) (L : List (List Int)) (w : World) (h : MV w (.slice a n cap) L) (hv : Valid L) (hn : n ≤ 1000) (hS : w.heap.size ≤ S) : ∀ (b : Nat), b < n → ∀ (g : Nat → Nat) (wr : World), Below w.heap.size w wr → NR wr S n g → GK L g →
    Calls Try.prog 24 #[.slice a n cap, .int .i64 (b : Int), .slice (some ⟨S, 0, none⟩) n n] wr (RwPost L S n b w) := by
  intro b
  induction b using Nat.strongRecOn with
  | _ b ih =>
    intro hb g wr hB hR hG
    have IH := Lib.hid ih
    have HG := Lib.hid hG
    have HR := Lib.hid hR
    have HB := Lib.hid hB
    have HVa := Lib.hid hv
    have hle := ht_le hv b
    obtain ⟨z, hz⟩ : ∃ z, ht L b = z := ⟨_, rfl⟩
    rw [hz] at hle
    have HZ := Lib.hid hz
    obtain ⟨x, hx⟩ : ∃ x, g b = x := ⟨_, rfl⟩
    have hc := hR.at b x hb hx
    have hxz := hG b
    rw [hx, hz] at hxz
    have hb2 : (b : Int) < (n : Int) := by omega
    have hfz := World.rowIs.frozen hR b
    obtain ⟨b1, o, ai, ci, rfl, hbl, hcl, hvv⟩ := (h.below hB).row b hb
    obtain ⟨b', o', ai', ci', eb, hbl', hcl', hv'⟩ := h.row b hb
    have hcl2 := (hB.cell (p := ⟨b', o' + b, none⟩) hbl').trans hcl'
    cases eb
    rw [hcl] at hcl2
    cases hcl2
    obtain ⟨_, hm1, hm2⟩ := hv'.len
    unfold maxLen at hm2
    have HV := Lib.hid hv'
    obtain ⟨m, hm⟩ : ∃ m, (L.getD b []).length = m := ⟨_, rfl⟩
    rw [hm] at hcl HV hm1 hcl'
    have HM := Lib.hid hm
    have HC := Lib.hid hcl'
    clear hvv hv' hm hcl' ih hG hR hB h hv hz hx
    by_cases h0 : 0 < x
    · have hez : x = z := by omega
      have hp : (0 : Int) < (x : Int) := by omega
      clear hcl
      go_enter Try.func24, Try.ntmps24
      go_wp2_with fail
      go_ret
      exact ⟨by rw [HZ.out, ← hez]; rfl, g, HR.out, HG.out, HB.out⟩
    · obtain rfl : x = 0 := by omega
      have hc' : wr.cell? ⟨S, b, none⟩ = some (.int .i64 0) := hc
      clear hcl hc
      go_enter Try.func24, Try.ntmps24
      go_wp2_with fail
      go_loopw [7, 8] (fun y i wi => ∃ (j : Nat) (g' : Nat → Nat), j ≤ m ∧ y = .int .i64 ((mx ((L.getD b []).take j) (ht L) : Nat) : Int) ∧ i = .int .i64 (j : Int) ∧ Hid (NR wi S n g') ∧ Hid (GK L g') ∧ Hid (Below w.heap.size w wi)) (fun _ i _ => m - (intOf i).toNat)
      case atStart => exact ⟨0, g, by omega, by simp [mx], rfl, HR, HG, HB⟩
      case round =>
        clear HR HG HB hc' hfz
        obtain ⟨j, g', hj, rfl, rfl, HR, HG, HB⟩ := hrel
        have hcl := (HB.out.cell (p := ⟨b1, o + b, none⟩) hbl').trans HC.out
        have hbl2 : b1 < wr.heap.size := Nat.lt_of_lt_of_le hbl' HB.out.size
        obtain ⟨y, hy⟩ : ∃ y, mx ((L.getD b []).take j) (ht L) = y := ⟨_, rfl⟩
        rw [hy]
        have HY := Lib.hid hy
        clear hy
        by_cases hjl : j < m
        · obtain ⟨b2, o2, rfl, hbl3, hcy⟩ := (HV.out.below HB.out).at j hjl
          obtain ⟨p, hp⟩ : ∃ p, (L.getD b []).getD j 0 = p := ⟨_, rfl⟩
          rw [hp] at hcy
          have hpv := HVa.out b p (by rw [← hp]; exact getD_mem (by rw [HM.out]; exact hjl))
          obtain ⟨c, rfl⟩ : ∃ c : Nat, p = (c : Int) := ⟨p.toNat, by omega⟩
          have hcb : c < b := by omega
          obtain ⟨v, hvv⟩ : ∃ v, ht L c = v := ⟨_, rfl⟩
          have C := Lib.hid (IH.out c hcb (by omega) g' wr HB.out HR.out HG.out)
          unfold RwPost at C
          rw [hvv] at C
          obtain ⟨r, hr⟩ : ∃ r, max y v = r := ⟨_, rfl⟩
          have hmax : (if y < v then (v : Int) else (y : Int)) = (r : Int) := by rw [← hr, ← max_int]; simp
          have HE : Hid (mx ((L.getD b []).take (j + 1)) (ht L) = r) := Lib.hid (by
            rw [mx_take _ _ _ (by rw [HM.out]; exact hjl), HY.out, hp, ← hr, ← hvv]; rfl)
          clear hvv hr hp HR HG HB
          go_wp2_with (first | (go_at_call 24; (with_reducible refine C.out.mono ?_); rintro e w2 ⟨rfl, g2, HR0, HG0, HB0⟩; have HR := Lib.hid HR0; have HG := Lib.hid HG0; have HB := Lib.hid HB0; clear HR0 HG0 HB0))
          go_roundw
          case rel => exact ⟨j + 1, g2, by omega, by rw [HE.out], by go_num, HR, HG, HB⟩
          case measure => simp [intOf]; omega
        · obtain rfl : j = m := by omega
          have hE : ht L b = y + 1 := by
            rw [ht_unf HVa.out, ← HY.out, List.take_of_length_le (by rw [HM.out]; omega)]; omega
          rw [HZ.out] at hE
          have hyl : y ≤ 1000 := by omega
          have hfz := World.rowIs.frozen HR.out b
          have hcz := HR.out.at b _ hb rfl
          have H5 := Lib.hid (HR.out.set b (y + 1))
          have HB5 := Lib.hid (HB.out.setCell (p := ⟨S, b, none⟩) hS (.int .i64 ((y + 1 : Nat) : Int)))
          have HG5 : Hid (GK L (fun i => if i = b then y + 1 else g' i)) := Lib.hid fun i => by
            by_cases e : i = b
            · subst e; right; show (if i = i then y + 1 else g' i) = ht L i; rw [if_pos rfl, HZ.out, hE]
            · simp only [if_neg e]; exact HG.out i
          clear HR HG HB
          go_wp2_with fail
          go_ret
          exact ⟨by rw [HZ.out, hE]; rfl, _, H5.out, HG5.out, HB5.out⟩
theorem rlongest_bad (a : Option Addr) (n cap : Nat) (L : List (List Int)) (c : Int) (w : World) (h : MV w (.slice a n cap) L) (hc : ck L = c) (h0 : c = 9 ∨ c = 3) :
    Calls Try.prog 13 #[.slice a n cap] w fun e w' => e = .returned (.tuple #[.int .i64 0, .int .i64 c]) ∧ w = w' := by
  have C := Lib.hid (rcheck_of a n cap L c w h hc)
  clear h hc
  rcases h0 with rfl | rfl
  all_goals
    go_enter Try.func13, Try.ntmps13
    go_wp2_with (first | (go_at_call 11; refine C.out.mono ?_; rintro e w1 ⟨rfl, rfl⟩))
    go_ret2
    exact ⟨rfl, rfl⟩
set_option maxRecDepth 20000 in
set_option maxHeartbeats 1000000 in
theorem rlongest_of (a : Option Addr) (n cap : Nat) (L : List (List Int)) (w : World) (h : MV w (.slice a n cap) L) (hc : ck L = 0) :
    Calls Try.prog 13 #[.slice a n cap] w (LPost w (tp L n)) := by
  obtain ⟨hnl, hnc, hcm⟩ := h.len
  have hn : n ≤ 1000 := by have := ck_cases L; omega
  have hV : Valid L := valid_of (by have := ck_cases L; rcases this with h | h | h; omega; omega; exact h.2.2)
  have C := Lib.hid (rcheck_of a n cap L 0 w h hc)
  have CR := Lib.hid (row_of a n cap w.heap.size L w h hV hn (Nat.le_refl _))
  have hmk := mk_ints n (by omega)
  obtain ⟨S, hS⟩ : ∃ S, w.heap.size = S := ⟨_, rfl⟩
  have HS := Lib.hid hS
  obtain ⟨W0, hW0⟩ : ∃ W0, w.alloc (intsObj n) = W0 := ⟨_, rfl⟩
  have hr0 : Hid (NR W0 S n (fun _ => 0)) := Lib.hid (by rw [← hW0, ← hS]; exact made_ints n w)
  have hg0 : Hid (GK L (fun _ => 0)) := Lib.hid fun i => .inl rfl
  have hB0 : Hid (Below w.heap.size w W0) := Lib.hid (by rw [← hW0]; go_grown)
  have HW0 := Lib.hid hW0
  rw [hS] at CR
  clear h hc hV hcm hnl hS hW0
  go_enter Try.func13, Try.ntmps13
  go_wp2_with (first | (go_at_call 11; refine C.out.mono ?_; rintro e w1 ⟨rfl, rfl⟩))
  rw [HW0.out, HS.out]
  go_loopw [6, 7] (fun m i wr => ∃ (k : Nat) (g : Nat → Nat), k ≤ n ∧ m = .int .i64 ((tp L k : Nat) : Int) ∧ i = .int .i64 (k : Int) ∧ Hid (NR wr S n g) ∧ Hid (GK L g) ∧ Hid (Below w.heap.size w wr)) (fun _ i _ => n - (intOf i).toNat)
  case atStart => exact ⟨0, _, by omega, rfl, rfl, hr0, hg0, hB0⟩
  case round =>
    clear hr0 hB0 hg0 C hmk HW0
    obtain ⟨k, g, hk, rfl, rfl, HR, HG, HB⟩ := hrel
    obtain ⟨tk, htk⟩ : ∃ tk, tp L k = tk := ⟨_, rfl⟩
    rw [htk]
    have HTK := Lib.hid htk
    clear htk
    by_cases hlt : k < n
    · have C := CR.out k hlt g wr (by rw [← HS.out]; exact HB.out) HR.out HG.out
      unfold RwPost at C
      obtain ⟨v, hv⟩ : ∃ v, ht L k = v := ⟨_, rfl⟩
      rw [hv] at C
      have HC := Lib.hid C
      obtain ⟨r, hr⟩ : ∃ r, max tk v = r := ⟨_, rfl⟩
      have hmax : (if tk < v then (v : Int) else (tk : Int)) = (r : Int) := by rw [← hr, ← max_int]; simp
      have HE : Hid (tp L (k + 1) = r) := Lib.hid (by rw [← hr, ← hv, ← HTK.out]; rfl)
      clear hv hr C HR HG HB
      go_wp2_with (first | (go_at_call 24; (with_reducible refine HC.out.mono ?_); rintro e w2 ⟨rfl, g2, HR0, HG0, HB0⟩; have HR := Lib.hid HR0; have HG := Lib.hid HG0; have HB := Lib.hid HB0; clear HR0 HG0 HB0))
      go_roundw
      case rel => exact ⟨k + 1, g2, by omega, by rw [HE.out], by go_num, HR, HG, HB⟩
      case measure => simp [intOf]; omega
    · obtain rfl : k = n := by omega
      go_wp2_with fail
      go_ret2
      exact ⟨by rw [HTK.out]; rfl, HB.out⟩
end Go.Proofs.Ytciojgkgfhpaaaa.rh
