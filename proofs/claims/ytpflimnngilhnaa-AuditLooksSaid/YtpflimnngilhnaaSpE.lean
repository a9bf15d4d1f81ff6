/- Weights and sums, as the document reckons them; all together, one behind the other (layer 41). -/
import Derived.Test.YtpflimnngilhnaaSpC
namespace Go.Proofs.Ytpflimnngilhnaa.rh
open Go.ChangeShapes Go.WideShapes Go.ChangeAt Go.RowKit
set_option linter.unusedVariables false
set_option linter.unusedSimpArgs false
/-- what is known is right. -/
def GK (L : List (List Int)) (W g : Nat → Nat) : Prop := ∀ i, g i = 0 ∨ g i = hg L W i
def RwPost (L : List (List Int)) (W : Nat → Nat) (S n b : Nat) (w : World) (e : Ending) (w' : World) : Prop :=
  e = .returned (.int .i64 ((hg L W b : Nat) : Int)) ∧ ∃ g, NR w' S n g ∧ GK L W g ∧ Below w.heap.size w w'
set_option maxRecDepth 20000 in
set_option maxHeartbeats 1000000 in
theorem path_of (a : Option Addr) (n cap S SW : Nat) (W : Nat → Nat) (L : List (List Int)) (w : World) (h : MV w (.slice a n cap) L) (hv : Valid L) (hn : n ≤ 1000) (hW : NR w SW n W) (hp1 : ∀ i, 1 ≤ W i) (hsm : smW W n ≤ 1000000) (hS : w.heap.size ≤ S) : ∀ (b : Nat), b < n → ∀ (g : Nat → Nat) (wr : World), Below w.heap.size w wr → NR wr S n g → GK L W g →
    Calls Try.prog 35 #[.slice a n cap, .slice (some ⟨SW, 0, none⟩) n n, .int .i64 (b : Int), .slice (some ⟨S, 0, none⟩) n n] wr (RwPost L W S n b w) := by
  intro b
  induction b using Nat.strongRecOn with
  | _ b ih =>
    intro hb g wr hB hR hG
    have IH := Lib.hid ih
    have HG := Lib.hid hG
    have HR := Lib.hid hR
    have HB := Lib.hid hB
    have HVa := Lib.hid hv
    have hle : hg L W b ≤ 1000000 := by have := hg_le hv W b; have := smW_mono W (b + 1) n hb; omega
    have HW := Lib.hid hW
    have HW1 := Lib.hid (hp1 b)
    obtain ⟨z, hz⟩ : ∃ z, hg L W b = z := ⟨_, rfl⟩
    rw [hz] at hle
    have HZ := Lib.hid hz
    obtain ⟨x, hx⟩ : ∃ x, g b = x := ⟨_, rfl⟩
    have hc := hR.at b x hb hx
    have hxz := hG b
    rw [hx, hz] at hxz
    have hb2 : (b : Int) < (n : Int) := by omega
    have hfz := World.rowIs.frozen hR b
    obtain ⟨b1, o, ai, ci, rfl, hbl, hcl, hvv⟩ := (h.below hB).row b hb
    obtain ⟨b', o', ai', ci', eb, hbl', hcl', hv'⟩ := h.row b hb
    have hcl2 := (hB.cell (p := ⟨b', o' + b, none⟩) hbl').trans hcl'
    cases eb
    rw [hcl] at hcl2
    cases hcl2
    obtain ⟨_, hm1, hm2⟩ := hv'.len
    unfold maxLen at hm2
    have HV := Lib.hid hv'
    obtain ⟨m, hm⟩ : ∃ m, (L.getD b []).length = m := ⟨_, rfl⟩
    rw [hm] at hcl HV hm1 hcl'
    have HM := Lib.hid hm
    have HC := Lib.hid hcl'
    clear hvv hv' hm hcl' ih hG hR hB h hv hz hx hW hp1
    by_cases h0 : 0 < x
    · have hez : x = z := by omega
      have hp : (0 : Int) < (x : Int) := by omega
      clear hcl
      go_enter Try.func35, Try.ntmps35
      go_wp2_with fail
      go_ret
      exact ⟨by rw [HZ.out, ← hez]; rfl, g, HR.out, HG.out, HB.out⟩
    · obtain rfl : x = 0 := by omega
      have hc' : wr.cell? ⟨S, b, none⟩ = some (.int .i64 0) := hc
      clear hcl hc
      go_enter Try.func35, Try.ntmps35
      go_wp2_with fail
      go_loopw [9, 10] (fun y i wi => ∃ (j : Nat) (g' : Nat → Nat), j ≤ m ∧ y = .int .i64 ((mx ((L.getD b []).take j) (hg L W) : Nat) : Int) ∧ i = .int .i64 (j : Int) ∧ Hid (NR wi S n g') ∧ Hid (GK L W g') ∧ Hid (Below w.heap.size w wi)) (fun _ i _ => m - (intOf i).toNat)
      case atStart => exact ⟨0, g, by omega, by simp [mx], rfl, HR, HG, HB⟩
      case round =>
        clear HR HG HB hc' hfz
        obtain ⟨j, g', hj, rfl, rfl, HR, HG, HB⟩ := hrel
        have hcl := (HB.out.cell (p := ⟨b1, o + b, none⟩) hbl').trans HC.out
        have hbl2 : b1 < wr.heap.size := Nat.lt_of_lt_of_le hbl' HB.out.size
        obtain ⟨y, hy⟩ : ∃ y, mx ((L.getD b []).take j) (hg L W) = y := ⟨_, rfl⟩
        rw [hy]
        have HY := Lib.hid hy
        clear hy
        by_cases hjl : j < m
        · obtain ⟨b2, o2, rfl, hbl3, hcy⟩ := (HV.out.below HB.out).at j hjl
          obtain ⟨p, hp⟩ : ∃ p, (L.getD b []).getD j 0 = p := ⟨_, rfl⟩
          rw [hp] at hcy
          have hpv := HVa.out b p (by rw [← hp]; exact getD_mem (by rw [HM.out]; exact hjl))
          obtain ⟨c, rfl⟩ : ∃ c : Nat, p = (c : Int) := ⟨p.toNat, by omega⟩
          have hcb : c < b := by omega
          obtain ⟨v, hvv⟩ : ∃ v, hg L W c = v := ⟨_, rfl⟩
          have C := Lib.hid (IH.out c hcb (by omega) g' wr HB.out HR.out HG.out)
          unfold RwPost at C
          rw [hvv] at C
          obtain ⟨r, hr⟩ : ∃ r, max y v = r := ⟨_, rfl⟩
          have hmax : (if y < v then (v : Int) else (y : Int)) = (r : Int) := by rw [← hr, ← max_int]; simp
          have HE : Hid (mx ((L.getD b []).take (j + 1)) (hg L W) = r) := Lib.hid (by
            rw [mx_take _ _ _ (by rw [HM.out]; exact hjl), HY.out, hp, ← hr, ← hvv]; rfl)
          clear hvv hr hp HR HG HB
          go_wp2_with (first | (go_at_call 35; (with_reducible refine C.out.mono ?_); rintro e w2 ⟨rfl, g2, HR0, HG0, HB0⟩; have HR := Lib.hid HR0; have HG := Lib.hid HG0; have HB := Lib.hid HB0; clear HR0 HG0 HB0))
          go_roundw
          case rel => exact ⟨j + 1, g2, by omega, by rw [HE.out], by go_num, HR, HG, HB⟩
          case measure => simp [intOf]; omega
        · obtain rfl : j = m := by omega
          obtain ⟨q, hq⟩ : ∃ q, W b = q := ⟨_, rfl⟩
          have hcq := (HW.out.below HB.out).at b q hb hq
          have hE : hg L W b = y + q := by
            rw [hg_unf HVa.out W, hq, ← HY.out, List.take_of_length_le (by rw [HM.out]; omega)]; omega
          rw [HZ.out] at hE
          have hyl : y ≤ 1000000 := by omega
          have hql : q ≤ 1000000 := by omega
          have hfz := World.rowIs.frozen HR.out b
          have hcz := HR.out.at b _ hb rfl
          have H5 := Lib.hid (HR.out.set b (y + q))
          have HB5 := Lib.hid (HB.out.setCell (p := ⟨S, b, none⟩) hS (.int .i64 ((y + q : Nat) : Int)))
          have hcn := H5.out.at b (y + q) hb (by rw [if_pos rfl])
          have HG5 : Hid (GK L W (fun i => if i = b then y + q else g' i)) := Lib.hid fun i => by
            by_cases e : i = b
            · subst e; right; show (if i = i then y + q else g' i) = hg L W i; rw [if_pos rfl, HZ.out, hE]
            · simp only [if_neg e]; exact HG.out i
          clear HR HG HB hq
          go_wp2_with fail
          go_ret
          exact ⟨by rw [HZ.out, hE]; rfl, _, H5.out, HG5.out, HB5.out⟩
set_option maxRecDepth 20000 in
set_option maxHeartbeats 1000000 in
theorem rspan_of (a : Option Addr) (n cap SW : Nat) (W : Nat → Nat) (L : List (List Int)) (w : World) (h : MV w (.slice a n cap) L) (hV : Valid L) (hn : n ≤ 1000) (hW : NR w SW n W) (hp1 : ∀ i, 1 ≤ W i) (hsm : smW W n ≤ 1000000) :
    Calls Try.prog 20 #[.slice a n cap, .slice (some ⟨SW, 0, none⟩) n n] w fun e w' => e = .returned (.int .i64 ((gt (hg L W) n : Nat) : Int)) ∧ Below w.heap.size w w' := by
  obtain ⟨hnl, hnc, hcm⟩ := h.len
  have CR := Lib.hid (path_of a n cap w.heap.size SW W L w h hV hn hW hp1 hsm (Nat.le_refl _))
  have hmk := mk_ints n (by omega)
  obtain ⟨S, hS⟩ : ∃ S, w.heap.size = S := ⟨_, rfl⟩
  have HS := Lib.hid hS
  obtain ⟨W0, hW0⟩ : ∃ W0, w.alloc (intsObj n) = W0 := ⟨_, rfl⟩
  have hr0 : Hid (NR W0 S n (fun _ => 0)) := Lib.hid (by rw [← hW0, ← hS]; exact made_ints n w)
  have hg0 : Hid (GK L W (fun _ => 0)) := Lib.hid fun i => .inl rfl
  have hB0 : Hid (Below w.heap.size w W0) := Lib.hid (by rw [← hW0]; go_grown)
  have HW0 := Lib.hid hW0
  rw [hS] at CR
  clear h hV hcm hnl hS hW0 hW hp1
  go_enter Try.func20, Try.ntmps20
  go_wp2_with fail
  rw [HW0.out, HS.out]
  go_loopw [6, 7] (fun m i wr => ∃ (k : Nat) (g : Nat → Nat), k ≤ n ∧ m = .int .i64 ((gt (hg L W) k : Nat) : Int) ∧ i = .int .i64 (k : Int) ∧ Hid (NR wr S n g) ∧ Hid (GK L W g) ∧ Hid (Below w.heap.size w wr)) (fun _ i _ => n - (intOf i).toNat)
  case atStart => exact ⟨0, _, by omega, rfl, rfl, hr0, hg0, hB0⟩
  case round =>
    clear hr0 hB0 hg0 hmk HW0
    obtain ⟨k, g, hk, rfl, rfl, HR, HG, HB⟩ := hrel
    obtain ⟨tk, htk⟩ : ∃ tk, gt (hg L W) k = tk := ⟨_, rfl⟩
    rw [htk]
    have HTK := Lib.hid htk
    clear htk
    by_cases hlt : k < n
    · have C := CR.out k hlt g wr (by rw [← HS.out]; exact HB.out) HR.out HG.out
      unfold RwPost at C
      obtain ⟨v, hv⟩ : ∃ v, hg L W k = v := ⟨_, rfl⟩
      rw [hv] at C
      have HC := Lib.hid C
      obtain ⟨r, hr⟩ : ∃ r, max tk v = r := ⟨_, rfl⟩
      have hmax : (if tk < v then (v : Int) else (tk : Int)) = (r : Int) := by rw [← hr, ← max_int]; simp
      have HE : Hid (gt (hg L W) (k + 1) = r) := Lib.hid (by rw [← hr, ← hv, ← HTK.out]; rfl)
      clear hv hr C HR HG HB
      go_wp2_with (first | (go_at_call 35; (with_reducible refine HC.out.mono ?_); rintro e w2 ⟨rfl, g2, HR0, HG0, HB0⟩; have HR := Lib.hid HR0; have HG := Lib.hid HG0; have HB := Lib.hid HB0; clear HR0 HG0 HB0))
      go_roundw
      case rel => exact ⟨k + 1, g2, by omega, by rw [HE.out], by go_num, HR, HG, HB⟩
      case measure => simp [intOf]; omega
    · obtain rfl : k = n := by omega
      go_wp2_with fail
      go_ret
      exact ⟨by rw [HTK.out]; rfl, HB.out⟩
theorem work_bad (a : Option Addr) (n cap : Nat) (L : List (List Int)) (c : Int) (q r : Value) (w : World) (h : MV w (.slice a n cap) L) (hc : ck L = c) (h0 : c = 9 ∨ c = 3) :
    Calls Try.prog 16 #[.agg #[.slice a n cap, q, r]] w fun e w' => e = .returned (.tuple #[.int .i64 0, .int .i64 c]) ∧ Below w.heap.size w w' := by
  have C := Lib.hid (fun w1 h1 => weights_bad a n cap L c q r w1 h1 hc h0)
  have hB := (Below.refl w.heap.size w).alloc (Nat.le_refl _) (.cells #[.slice a n cap, q, r] 44)
  have C1 := Lib.hid (C.out _ (h.below hB))
  have HB := Lib.hid hB
  clear h hc h0 C hB
  go_enter Try.func16, Try.ntmps16
  go_wp2_with (first | (go_at_call 15; (with_reducible refine C1.out.mono ?_); rintro e w1 ⟨rfl, HB1⟩))
  have HBf := Lib.hid (trans3 HB.out HB1)
  go_loop [6, 16] (fun m i => i = .int .i64 0 ∧ m = .int .i64 0) (fun _ _ => 0)
  case atStart => exact ⟨rfl, rfl⟩
  case round =>
    obtain ⟨rfl, rfl⟩ := hrel
    go_wp2_with fail
    go_ret2
    exact ⟨rfl, HBf.out⟩
theorem span_bad (a : Option Addr) (n cap : Nat) (L : List (List Int)) (c : Int) (q r : Value) (w : World) (h : MV w (.slice a n cap) L) (hc : ck L = c) (h0 : c = 9 ∨ c = 3) :
    Calls Try.prog 17 #[.agg #[.slice a n cap, q, r]] w fun e w' => e = .returned (.tuple #[.int .i64 0, .int .i64 c]) ∧ Below w.heap.size w w' := by
  have C := Lib.hid (fun w1 h1 => weights_bad a n cap L c q r w1 h1 hc h0)
  have hB := (Below.refl w.heap.size w).alloc (Nat.le_refl _) (.cells #[.slice a n cap, q, r] 44)
  have C1 := (C.out _ (h.below hB))
  have HB := Lib.hid hB
  clear h hc C hB
  rcases h0 with rfl | rfl
  all_goals
    replace C1 := Lib.hid C1
    go_enter Try.func17, Try.ntmps17
    go_wp2_with (first | (go_at_call 15; (with_reducible refine C1.out.mono ?_); rintro e w1 ⟨rfl, HB1⟩))
    go_ret2
    exact ⟨rfl, trans3 HB.out HB1⟩
end Go.Proofs.Ytpflimnngilhnaa.rh
