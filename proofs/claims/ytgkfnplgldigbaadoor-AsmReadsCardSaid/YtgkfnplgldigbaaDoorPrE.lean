/- A program as bytes (layer 4). -/
import Derived.Test.YtgkfnplgldigbaaDoorPrD
namespace Go.Proofs.YtgkfnplgldigbaaDoor.pr
open Go.ChangeShapes Go.WideShapes Go.ChangeAt Go.RowKit
open Go.Proofs.YtgkfnplgldigbaaDoor.bin Go.Proofs.YtgkfnplgldigbaaDoor.bits Go.Proofs.YtgkfnplgldigbaaDoor.ins
set_option linter.unusedVariables false
set_option linter.unusedSimpArgs false
def enc4 (x : I4) : List UInt8 := encI x.1 x.2.1 x.2.2.1 x.2.2.2
def fnB (l : List I4) : List UInt8 := putB l.length 2 ++ l.flatMap enc4
def hdB (m : Int) (n : Nat) : List UInt8 := (([72, 82, 1] : List UInt8) ++ putB n 1) ++ putB m 2
def prB (m : Int) (L : List (List I4)) : List UInt8 := hdB m L.length ++ L.flatMap fnB
def prS (m : Int) (L : List (List I4)) : List UInt8 := if prE m L = 0 then prB m L else []
theorem enc4_len (x : I4) : (enc4 x).length = 4 := encI_len _ _ _ _
theorem encs_len (l : List I4) : (l.flatMap enc4).length = 4 * l.length := by
  induction l with
  | nil => rfl
  | cons x l ih => rw [List.flatMap_cons, List.length_append, enc4_len, ih, List.length_cons]; omega
theorem fnB_len (l : List I4) : (fnB l).length = 2 + 4 * l.length := by unfold fnB; rw [List.length_append, putB_len, encs_len]
theorem hdB_len (m : Int) (n : Nat) : (hdB m n).length = 6 := by unfold hdB; rw [List.length_append, List.length_append, putB_len, putB_len]; rfl
theorem take_flat {α β : Type} (f : α → List β) (d : α) (l : List α) (k : Nat) (h : k < l.length) : (l.take (k + 1)).flatMap f = (l.take k).flatMap f ++ f (l.getD k d) := by
  rw [List.take_add_one, List.flatMap_append, List.getD_eq_getElem?_getD, List.getElem?_eq_getElem h]; simp
theorem str_join (s t : List UInt8) : (⟨s.toArray⟩ : ByteArray) ++ ⟨t.toArray⟩ = ⟨(s ++ t).toArray⟩ := by
  apply ByteArray.ext
  simp
theorem putl_v (s : List UInt8) (n size : Int) (h : Nat) (w : World) (hs : s.length ≤ 1000000) (hh : hz size = h) : Calls Tryd.prog 44 #[.string ⟨s.toArray⟩, .int .i64 n, .int .i64 size] w fun e w' => e = .returned (.string ⟨(s ++ putB n h).toArray⟩) ∧ Below w.heap.size w w' := by
  have hb := hz_bd size
  refine (put_v ⟨s.toArray⟩ n size h w (by rw [str_size]; exact hs) (Lib.hid hh) (by omega) (by omega)).mono ?_
  rintro e w' ⟨rfl, hb⟩
  exact ⟨by simp, hb⟩
theorem cntE_0 {m : Int} {n : Nat} (h : cntE m n = 0) : 0 ≤ m ∧ m ≤ 256 ∧ 1 ≤ n ∧ n ≤ 16 := by
  unfold cntE at h
  by_cases h0 : m < 0 ∨ 256 < m
  · rw [if_pos h0] at h; omega
  · rw [if_neg h0] at h
    by_cases h2 : n = 0
    · rw [if_pos h2] at h; omega
    · rw [if_neg h2] at h
      by_cases h3 : 16 < n
      · rw [if_pos h3] at h; omega
      · omega
theorem lenE_0 {n : Nat} (h : lenE n = 0) : 1 ≤ n ∧ n ≤ 200 := by
  unfold lenE at h
  by_cases h2 : n = 0
  · rw [if_pos h2] at h; omega
  · rw [if_neg h2] at h
    by_cases h3 : 200 < n
    · rw [if_pos h3] at h; omega
    · omega
theorem fnE_0 {l : List I4} {q : Nat} (h : fnE l q = 0) : lenE l.length = 0 ∧ insR l q l.length = 0 ∧ okEnd (l.getD (l.length - 1) d4).1 = true := by
  unfold fnE at h
  by_cases h1 : lenE l.length = 0
  · rw [if_neg (by omega)] at h
    by_cases h2 : insR l q l.length = 0
    · rw [if_neg (by omega)] at h
      refine ⟨h1, h2, ?_⟩
      cases he : okEnd (l.getD (l.length - 1) d4).1 with
      | true => rfl
      | false => rw [he] at h; simp at h
    · rw [if_pos h2] at h; exact absurd h h2
  · rw [if_pos h1] at h; exact absurd h h1
theorem insR_0 {l : List I4} {q : Nat} (h : insR l q l.length = 0) (k : Nat) (hk : k < l.length) : ck4 (l.getD k d4) = 0 ∧ ld4 (l.getD k d4) l.length q = true := by
  by_cases h1 : insR l q (k + 1) = 0
  · rw [insR] at h1
    by_cases h0 : insR l q k = 0
    · rw [if_neg (by omega)] at h1
      by_cases h2 : ck4 (l.getD k d4) = 0
      · rw [if_neg (by omega)] at h1
        refine ⟨h2, ?_⟩
        cases he : ld4 (l.getD k d4) l.length q with
        | true => rfl
        | false => rw [he] at h1; simp at h1
      · rw [if_pos h2] at h1; exact absurd h1 h2
    · rw [if_pos h0] at h1; exact absurd h1 h0
  · exact absurd (insR_stay l q (k + 1) l.length (by omega) h1 ▸ h) h1
theorem fnR_0 {L : List (List I4)} (h : fnR L L.length = 0) (k : Nat) (hk : k < L.length) : fnE (L.getD k []) L.length = 0 := by
  by_cases h1 : fnR L (k + 1) = 0
  · rw [fnR] at h1
    by_cases h0 : fnR L k = 0
    · rw [if_neg (by omega)] at h1
      exact h1
    · rw [if_pos h0] at h1; exact absurd h1 h0
  · exact absurd (fnR_stay L (k + 1) L.length (by omega) h1 ▸ h) h1
theorem prE_0 {m : Int} {L : List (List I4)} (h : prE m L = 0) : cntE m L.length = 0 ∧ fnR L L.length = 0 := by
  unfold prE at h
  by_cases h1 : cntE m L.length = 0
  · rw [if_neg (by omega)] at h
    exact ⟨h1, h⟩
  · rw [if_pos h1] at h; exact absurd h h1
set_option maxRecDepth 20000 in
set_option maxHeartbeats 4000000 in
theorem put_ok (m : Int) (a : Option Addr) (n c : Nat) (L : List (List I4)) (w : World) (h : PM w (.slice a n c) L) (hr : prE m L = 0) :
    Calls Tryd.prog 18 #[.agg #[.int .i64 m, .slice a n c]] w fun e w' => e = .returned (.tuple #[.string ⟨(prB m L).toArray⟩, .int .i64 0]) ∧ Below w.heap.size w w' := by
  obtain ⟨hnl, hnc, hcm⟩ := h.len
  unfold maxLen at hcm
  have HR0 := Lib.hid h
  have HNL := Lib.hid hnl
  obtain ⟨hc0, hf0⟩ := prE_0 hr
  have HF := Lib.hid (fun k hk => fnR_0 hf0 k hk)
  obtain ⟨_, _, _, hn16⟩ := cntE_0 hc0
  rw [← hnl] at hn16
  obtain ⟨W, hW⟩ : ∃ W, w.alloc (.cells #[.int .i64 m, .slice a n c] 32) = W := ⟨_, rfl⟩
  have hb0 : Below w.heap.size w W := by rw [← hW]; go_grown
  have HP := Lib.hid (show W.heap[w.heap.size]? = some (.cells #[.int .i64 m, .slice a n c] 32 (0, 0)) by rw [← hW]; exact heap_new _ _ _)
  have hs1 : w.heap.size < W.heap.size := by rw [← hW]; simp
  have HW := Lib.hid hW
  have CK := Lib.hid (check_v m a n c L 0 W (h.below hb0) hr)
  have h0 : Hid (Below w.heap.size w W) := Lib.hid hb0
  have HPM := Lib.hid (fun wr (hb : Below W.heap.size W wr) => (h.below (tr3 hb0 hb)))
  have hpB : prB m L = hdB m n ++ (L.take n).flatMap fnB := by unfold prB; rw [hnl, List.take_length]
  have HPB := Lib.hid hpB
  obtain ⟨S, hS⟩ : ∃ S, prB m L = S := ⟨_, rfl⟩
  rw [hS]
  have HS := Lib.hid hS
  have HD := Lib.hid (show hdB m n = (([72, 82, 1] : List UInt8) ++ putB n 1) ++ putB m 2 from rfl)
  clear h hnl hr hc0 hf0 hW hb0 hpB hS
  go_enter Tryd.func18, Tryd.ntmps18
  go_wp2_with fail
  rw [HW.out]
  refine CK.out.mono ?_
  rintro e w1 ⟨rfl, hb1⟩
  have HB1 := Lib.hid hb1
  obtain ⟨hp0, hp1⟩ : w1.cell? ⟨w.heap.size, 0, none⟩ = some (.int .i64 m) ∧ w1.cell? ⟨w.heap.size, 1, none⟩ = some (.slice a n c) := ⟨cel (kb HP.out hb1) 0, cel (kb HP.out hb1) 1⟩
  clear CK hb1
  have HPc : Hid (∀ w', Below w1.heap.size w1 w' → Below w1.heap.size w1 w' ∧ w'.cell? ⟨w.heap.size, 0, none⟩ = some (.int .i64 m) ∧ w'.cell? ⟨w.heap.size, 1, none⟩ = some (.slice a n c)) := Lib.hid fun w' hb => ⟨hb, cel (kb (kb HP.out HB1.out) hb) 0, cel (kb (kb HP.out HB1.out) hb) 1⟩
  obtain ⟨h1, hh1⟩ : ∃ h, ([72, 82, 1] : List UInt8) ++ putB n 1 = h := ⟨_, rfl⟩
  have hl1 : h1.length = 4 := by rw [← hh1, List.length_append, putB_len]; rfl
  obtain ⟨h2, hh2⟩ : ∃ h, h1 ++ putB m 2 = h := ⟨_, rfl⟩
  have hl2 : h2.length = 6 := by rw [← hh2, List.length_append, putB_len, hl1]
  have CP1 : Hid (∀ w, Calls Tryd.prog 44 #[.string ⟨#[72, 82, 1]⟩, .int .i64 (n : Int), .int .i64 1] w fun e w' => e = .returned (.string ⟨h1.toArray⟩) ∧ Below w.heap.size w w') := Lib.hid fun w => by
    have := putl_v [72, 82, 1] n 1 1 w (by decide) rfl
    rw [hh1] at this
    exact this
  have CP2 : Hid (∀ w, Calls Tryd.prog 44 #[.string ⟨h1.toArray⟩, .int .i64 m, .int .i64 2] w fun e w' => e = .returned (.string ⟨h2.toArray⟩) ∧ Below w.heap.size w w') := Lib.hid fun w => by
    have := putl_v h1 m 2 2 w (by omega) rfl
    rw [hh2] at this
    exact this
  rw [hh1, hh2] at HD
  rw [HD.out] at HPB
  have HL2 := Lib.hid hl2
  clear hh1 hh2 HD hl1 hl2
  go_wp2_with fail
  go_region_held3 (fun w' => Below w1.heap.size w1 w' ∧ w'.cell? ⟨w.heap.size, 0, none⟩ = some (.int .i64 m) ∧ w'.cell? ⟨w.heap.size, 1, none⟩ = some (.slice a n c)) (first | (with_reducible assumption) | exact HPc.out _ (Below.refl _ _) | exact HPc.out _ hb7 | exact HPc.out _ hb9 | (refine HPc.out _ ?_; go_grown; done))
    (first | (go_at_call 44; (with_reducible refine (CP1.out _).mono ?_); rintro e w6 ⟨rfl, hb6⟩; have hb7 : Below w1.heap.size w1 w6 := Below.trans (by go_grown) (hb6.mono (by go_grown))) | (go_at_call 44; (with_reducible refine (CP2.out _).mono ?_); rintro e w8 ⟨rfl, hb8⟩; have hb9 : Below w1.heap.size w1 w8 := tr3 hb7 hb8))
  have HB9 := Lib.hid (tr3 HB1.out hb9)
  obtain ⟨hp0, hp1⟩ := (HPc.out _ hb9).2
  have hs0 : Hid (h2 = h2 ++ (L.take 0).flatMap fnB) := Lib.hid (by simp)
  have hl0 : Hid (h2.length ≤ 6 + 802 * 0) := Lib.hid (by have := HL2.out; omega)
  clear hb6 hb7 hb8 hb9 HPc CP1 CP2 HB1
  go_wp2_with fail
  clear hp0 hp1
  go_loopw [5, 27] (fun s i wr => ∃ (k : Nat) (l : List UInt8), i = .int .i64 (k : Int) ∧ s = .string ⟨l.toArray⟩ ∧ k ≤ n ∧ Hid (l = h2 ++ (L.take k).flatMap fnB) ∧ Hid (l.length ≤ 6 + 802 * k) ∧ Hid (Below W.heap.size W wr)) (fun _ i _ => n - (intOf i).toNat)
  case atStart => exact ⟨0, h2, rfl, rfl, by omega, hs0, hl0, HB9⟩
  case round =>
    clear hs0 hl0 HB9
    obtain ⟨k, l, rfl, rfl, hk, HE, HL, HB⟩ := hrel
    by_cases hlt : k < n
    · obtain ⟨b, o, ai, ci, rfl, hbl, c0, hrow⟩ := (HPM.out wr HB.out).row k hlt
      have hfn := fnE_0 (HF.out k (by rw [← HNL.out]; exact hlt))
      have htk := take_flat fnB [] L k (by rw [← HNL.out]; exact hlt)
      obtain ⟨f, hx⟩ : ∃ x, L.getD k [] = x := ⟨_, rfl⟩
      rw [hx] at c0 hrow hfn htk
      obtain ⟨hln, hin, _⟩ := hfn
      obtain ⟨hf1, hf2⟩ := lenE_0 hln
      have HIN := Lib.hid (fun j hj => (insR_0 hin j hj).1)
      have hplI : (k : Int) < (n : Int) := by omega
      have hll := HL.out
      obtain ⟨l2, hl2⟩ : ∃ l2, l ++ putB f.length 2 = l2 := ⟨_, rfl⟩
      have hll2 : l2.length ≤ 8 + 802 * k := by rw [← hl2, List.length_append, putB_len]; omega
      have CP : Hid (∀ w, Calls Tryd.prog 44 #[.string ⟨l.toArray⟩, .int .i64 (f.length : Int), .int .i64 2] w fun e w' => e = .returned (.string ⟨l2.toArray⟩) ∧ Below w.heap.size w w') := Lib.hid fun w => by
        have := putl_v l f.length 2 2 w (by omega) rfl
        rw [hl2] at this
        exact this
      have HTK : Hid (h2 ++ (L.take (k + 1)).flatMap fnB = l2 ++ f.flatMap enc4) := Lib.hid (by rw [htk, ← hl2, HE.out, fnB]; simp [List.append_assoc])
      have HRW := Lib.hid hrow
      obtain ⟨nf, hnf⟩ : ∃ nf, f.length = nf := ⟨_, rfl⟩
      rw [hnf] at c0 hrow hf1 hf2 CP HIN HRW
      have HNF := Lib.hid hnf
      have HLL2 := Lib.hid hll2
      clear htk hx hln hin hl2 hrow hll hnf hll2 HE HL
      go_wp2_with fail
      refine (CP.out _).mono ?_
      rintro e w5 ⟨rfl, hb5⟩
      have HB5 := Lib.hid (tr3 HB.out hb5)
      have HRW5 := Lib.hid (HRW.out.below hb5)
      have hs0 : Hid (l2 = l2 ++ (f.take 0).flatMap enc4) := Lib.hid (by simp)
      have hl0 : Hid (l2.length ≤ 8 + 802 * k + 4 * 0) := Lib.hid (by have := HLL2.out; omega)
      have h50 : Hid (Below w5.heap.size w5 w5) := Lib.hid (Below.refl _ _)
      clear hb5 c0 HB HRW CP
      go_wp2_with fail
      go_loopw [5, 37] (fun s i wq => ∃ (j : Nat) (l : List UInt8), i = .int .i64 (j : Int) ∧ s = .string ⟨l.toArray⟩ ∧ j ≤ nf ∧ Hid (l = l2 ++ (f.take j).flatMap enc4) ∧ Hid (l.length ≤ 8 + 802 * k + 4 * j) ∧ Hid (Below w5.heap.size w5 wq)) (fun _ i _ => nf - (intOf i).toNat)
      case atStart => exact ⟨0, l2, rfl, rfl, by omega, hs0, hl0, h50⟩
      case round =>
        clear hs0 hl0 h50
        obtain ⟨j, l, rfl, rfl, hj, HE, HL, HB⟩ := hrel
        by_cases hltj : j < nf
        · obtain ⟨bb, oo, rfl, hbl2, c0, c1, c2, c3⟩ := RV.four (HRW5.out.below HB.out) j hltj
          have hck := HIN.out j hltj
          have htk := take_flat enc4 d4 f j (by rw [HNF.out]; exact hltj)
          obtain ⟨⟨op, A, B, C⟩, hx⟩ : ∃ x, f.getD j d4 = x := ⟨_, rfl⟩
          rw [hx] at c0 c1 c2 c3 hck htk
          have CC := Lib.hid (fun w => pput_of op A B C 0 w hck)
          have hpl : (j : Int) < (nf : Int) := by omega
          have hj1 := str_join l (encI op A B C)
          obtain ⟨E, hE⟩ : ∃ E, encI op A B C = E := ⟨_, rfl⟩
          have hEl : E.length = 4 := by rw [← hE]; exact encI_len _ _ _ _
          have htE : (f.take (j + 1)).flatMap enc4 = (f.take j).flatMap enc4 ++ E := by rw [htk, ← hE]; rfl
          simp only [if_true, hE] at CC
          rw [hE] at hj1
          obtain ⟨l3, hl3⟩ : ∃ l3, l ++ E = l3 := ⟨_, rfl⟩
          rw [hl3] at hj1
          have HE3 : Hid (l3 = l2 ++ (f.take (j + 1)).flatMap enc4) := Lib.hid (by rw [← hl3, HE.out, htE, List.append_assoc])
          have HL3 : Hid (l3.length ≤ 8 + 802 * k + 4 * (j + 1)) := Lib.hid (by have := HL.out; rw [← hl3, List.length_append, hEl]; omega)
          have hsz : ¬ 9223372036854775807 < l.length + E.length := by have := HL.out; omega
          clear htk htE hE hEl hl3 hx hck
          go_wp2_with fail
          refine (CC.out _).mono ?_
          rintro e w6 ⟨rfl, hb6⟩
          have HB6 := Lib.hid (tr3 HB.out (Below.trans (by go_grown) (hb6.mono (by go_grown))))
          clear hb6 c0 c1 c2 c3
          go_wp2_with fail
          go_roundw
          case rel => exact ⟨j + 1, l3, by go_num, rfl, by omega, HE3, HL3, HB6⟩
          case measure => simp [intOf]; omega
        · obtain rfl : j = nf := by omega
          have HE3 : Hid (l = h2 ++ (L.take (k + 1)).flatMap fnB) := Lib.hid (by rw [HE.out, HTK.out, ← HNF.out, List.take_length])
          have HL3 : Hid (l.length ≤ 6 + 802 * (k + 1)) := Lib.hid (by have := HL.out; omega)
          have HB6 := Lib.hid (tr3 HB5.out HB.out)
          go_wp2_with fail
          go_roundw
          case rel => exact ⟨k + 1, l, by go_num, rfl, by omega, HE3, HL3, HB6⟩
          case measure => simp [intOf]; omega
    · obtain rfl : k = n := by omega
      have hfin : l = S := by rw [HE.out, ← HS.out, HPB.out]
      subst hfin
      go_wp2_with fail
      go_ret2
      exact ⟨rfl, tr3 h0.out HB.out⟩
theorem put_no (m : Int) (a : Option Addr) (n c : Nat) (L : List (List I4)) (r : Int) (w : World) (h : PM w (.slice a n c) L) (hr : prE m L = r) (h0 : r ≠ 0) :
    Calls Tryd.prog 18 #[.agg #[.int .i64 m, .slice a n c]] w fun e w' => e = .returned (.tuple #[.string ⟨#[]⟩, .int .i64 r]) ∧ Below w.heap.size w w' := by
  obtain ⟨W, hW⟩ : ∃ W, w.alloc (.cells #[.int .i64 m, .slice a n c] 32) = W := ⟨_, rfl⟩
  have hb0 : Below w.heap.size w W := by rw [← hW]; go_grown
  have CK := Lib.hid (check_v m a n c L r W (h.below hb0) hr)
  have hcb : (r == 0) = false := by simpa using h0
  have hcn : (r != 0) = true := by simpa using h0
  have HW := Lib.hid hW
  clear h hr hW
  go_enter Tryd.func18, Tryd.ntmps18
  go_wp2_with fail
  rw [HW.out]
  refine CK.out.mono ?_
  rintro e w1 ⟨rfl, hb1⟩
  go_wp2_with fail
  go_ret2
  exact ⟨rfl, tr3 hb0 hb1⟩
theorem pput_any (m : Int) (a : Option Addr) (n c : Nat) (L : List (List I4)) (w : World) (h : PM w (.slice a n c) L) :
    Calls Tryd.prog 18 #[.agg #[.int .i64 m, .slice a n c]] w fun e w' => e = .returned (.tuple #[.string ⟨(prS m L).toArray⟩, .int .i64 (prE m L)]) ∧ Below w.heap.size w w' := by
  by_cases h0 : prE m L = 0
  · refine (put_ok m a n c L w h h0).mono ?_
    rintro e w' ⟨rfl, hb⟩
    exact ⟨by rw [prS, if_pos h0, h0], hb⟩
  · refine (put_no m a n c L _ w h rfl h0).mono ?_
    rintro e w' ⟨rfl, hb⟩
    exact ⟨by rw [prS, if_neg h0], hb⟩
end Go.Proofs.YtgkfnplgldigbaaDoor.pr
