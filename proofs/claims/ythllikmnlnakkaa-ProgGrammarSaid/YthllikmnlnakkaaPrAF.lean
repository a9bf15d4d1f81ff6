/- Pure: the grammar says just what is got (layer 4). -/
import Derived.Test.YthllikmnlnakkaaPrAE
namespace Go.Proofs.Ythllikmnlnakkaa.pr
open Go.ChangeShapes Go.WideShapes Go.ChangeAt Go.RowKit
open Go.Proofs.Ythllikmnlnakkaa.bin Go.Proofs.Ythllikmnlnakkaa.bits Go.Proofs.Ythllikmnlnakkaa.ins
set_option linter.unusedVariables false
set_option linter.unusedSimpArgs false
theorem ldL_pad : ∀ (f : List UInt8) (vs z : List Int) (p q : Nat), vs.length = f.length → ldL f (vs ++ z) p q = ldL f vs p q := by
  intro f
  induction f with
  | nil => intro vs z p q h; rfl
  | cons c f ih =>
    intro vs z p q h
    match vs, h with
    | v :: vs, h =>
      rw [List.cons_append, ldL, ldL, ih vs z p q (by simpa using h)]
theorem endB_ok (b : UInt8) : okEnd (b.toNat : Int) = endB b := by
  have h : ∀ n : Nat, ∀ c : UInt8, c.toNat = n → ((b.toNat : Int) == (n : Int)) = (b == c) := by
    intro n c hc
    by_cases e : b = c
    · subst e; simp [hc]
    · have h1 : (b == c) = false := by simpa using e
      have h2 : ¬ (b.toNat : Int) = (n : Int) := fun h => e (UInt8.toNat_inj.1 (by omega))
      rw [h1]
      simpa using h2
  unfold okEnd endB
  rw [← h 0 0 rfl, ← h 18 18 rfl, ← h 25 25 rfl]
  rfl
theorem insB_eq (w : List UInt8) (code funcs : Nat) (last : Bool) (hw : w.length = 4) : insB w code funcs last = (decide (getE w = 0) && ld4 (gI w) code funcs && (!last || okEnd (gI w).1)) := by
  match w, hw with
  | b :: rest, hw =>
    have hr : rest.length = 3 := by simpa using hw
    unfold insB
    simp only [List.getD_cons_zero, List.drop_succ_cons, List.drop_zero]
    have hge := getE_cons b rest hr
    by_cases h25 : 25 < b.toNat
    · rw [if_pos h25] at hge ⊢
      rw [hge]; simp
    · rw [if_neg h25] at hge ⊢
      have hf := frm_ok b.toNat
      have hfr := frR_iff code funcs (frm b.toNat) rest hf.2 (by have := ins.sumW_frm b.toNat; omega)
      rw [hfr]
      by_cases hT : (readL (frm b.toNat) rest).1 = 0
      · rw [if_neg (by simpa using hT)] at hge
        by_cases hz : (readL (frm b.toNat) rest).2.2.all (· == 0) = true
        · rw [if_pos hz] at hge
          obtain ⟨A, B, C, hA, hB, hC, _, _⟩ := put_get b rest hr h25 hT hz
          have hg : gI (b :: rest) = ((b.toNat : Int), A, B, C) := by
            unfold gI getV
            rw [hge, ← hA, ← hB, ← hC]
            rfl
          have hvl := (enc_read (frm b.toNat) rest hf.2 hT (by have := ins.sumW_frm b.toNat; omega) [] (by simp)).2.2
          have hld : ld4 (gI (b :: rest)) code funcs = ldL (frm b.toNat) (readL (frm b.toNat) rest).2.1 code funcs := by
            rw [hg]
            unfold ld4 leadsI
            simp only
            rw [frm_nat]
            obtain ⟨vs, hvs⟩ : ∃ vs, (readL (frm b.toNat) rest).2.1 = vs := ⟨_, rfl⟩
            rw [hvs] at hA hB hC hvl ⊢
            have hpad : three A B C = vs ++ List.replicate (3 - vs.length) 0 := by
              subst hA hB hC
              match vs, hvl.symm ▸ hf.1 with
              | [], _ => rfl
              | [a], _ => rfl
              | [a, b], _ => rfl
              | [a, b, c], _ => rfl
            rw [hpad, ldL_pad _ _ _ _ _ hvl]
          have he : okEnd (gI (b :: rest)).1 = endB b := by rw [hg]; exact endB_ok b
          rw [hld, he, hge]
          by_cases h1 : ldL (frm b.toNat) (readL (frm b.toNat) rest).2.1 code funcs = true
          · rw [if_pos ⟨hT, h1⟩, h1]
            simp only [zs, hz]
            simp
          · rw [if_neg (fun h => h1 h.2)]
            simp at h1
            simp [h1]
        · rw [if_neg hz] at hge
          rw [hge]
          have hz' : zs (readL (frm b.toNat) rest).2.2 = false := by simpa [zs] using hz
          split
          · rfl
          · rename_i z hzz
            have : z = (readL (frm b.toNat) rest).2.2 := by
              split at hzz
              · exact (Option.some.inj hzz).symm
              · cases hzz
            rw [this, hz']
            rfl
      · rw [if_pos hT] at hge
        rw [hge, if_neg (fun h => hT h.1)]
        rfl
theorem fnE_iff (l : List I4) (q : Nat) : fnE l q = 0 ↔ lenE l.length = 0 ∧ (∀ k, k < l.length → ck4 (l.getD k d4) = 0 ∧ ld4 (l.getD k d4) l.length q = true) ∧ okEnd (l.getD (l.length - 1) d4).1 = true := by
  constructor
  · intro h
    obtain ⟨h1, h2, h3⟩ := fnE_0 h
    exact ⟨h1, fun k hk => insR_0 h2 k hk, h3⟩
  · rintro ⟨h1, h2, h3⟩
    unfold fnE
    rw [h1, insR_of l q h2 _ (Nat.le_refl _), h3]
    simp
theorem rI_iff (code funcs : Nat) : ∀ (j : Nat) (r : List UInt8), 4 * j ≤ r.length → (rI code funcs j r = true ↔
    ∃ (xs : List I4) (z : List UInt8), xs.length = j ∧ r = xs.flatMap enc4 ++ z ∧ (∀ k, k < j → ck4 (xs.getD k d4) = 0 ∧ ld4 (xs.getD k d4) code funcs = true) ∧ (0 < j → okEnd (xs.getD (j - 1) d4).1 = true)) := by
  intro j
  induction j with
  | zero => intro r _; simp only [rI, true_iff]; exact ⟨[], r, rfl, rfl, fun k hk => absurd hk (by omega), fun h => absurd h (by omega)⟩
  | succ j ih =>
    intro r hr
    have h4 : (r.take 4).length = 4 := by rw [List.length_take]; omega
    rw [rI, insB_eq _ _ _ _ h4, Bool.and_eq_true, Bool.and_eq_true, Bool.and_eq_true, ih (r.drop 4) (by rw [List.length_drop]; omega)]
    constructor
    · rintro ⟨⟨⟨h1, h2⟩, h3⟩, xs, z, h5, h6, h7, h8⟩
      have hg := got_enc _ (of_decide_eq_true h1)
      refine ⟨gI (r.take 4) :: xs, z, by rw [List.length_cons, h5], ?_, fun k hk => ?_, fun _ => ?_⟩
      · rw [List.flatMap_cons, hg.1, List.append_assoc, ← h6, List.take_append_drop]
      · cases k with
        | zero => exact ⟨hg.2, h2⟩
        | succ k => exact h7 k (by omega)
      · cases j with
        | zero => simpa using h3
        | succ j => exact h8 (by omega)
    · rintro ⟨xs, z, h5, h6, h7, h8⟩
      match xs, h5 with
      | x :: xs, h5 =>
        have h5' : xs.length = j := by simpa using h5
        obtain ⟨c1, c2⟩ := h7 0 (by omega)
        have hx : r.take 4 = enc4 x := by rw [h6, List.flatMap_cons, List.append_assoc, take_app (enc4_len x)]
        have hd : r.drop 4 = xs.flatMap enc4 ++ z := by rw [h6, List.flatMap_cons, List.append_assoc, drop_app (enc4_len x)]
        obtain ⟨g1, g2⟩ := enc_got x c1
        rw [hx, hd, g1, g2]
        refine ⟨⟨⟨rfl, c2⟩, ?_⟩, xs, z, h5', rfl, fun k hk => h7 (k + 1) (by omega), fun hj => ?_⟩
        · by_cases hj : j = 0
          · subst hj
            have := h8 (by omega)
            simpa using this
          · have : (j == 0) = false := by simpa using hj
            rw [this]; rfl
        · have := h8 (by omega)
          obtain ⟨i, rfl⟩ : ∃ i, j = i + 1 := ⟨j - 1, by omega⟩
          exact this
theorem rF_iff (funcs : Nat) : ∀ (k : Nat) (r : List UInt8), rF funcs k r = true ↔ ∃ L : List (List I4), L.length = k ∧ r = L.flatMap fnB ∧ ∀ l ∈ L, fnE l funcs = 0 := by
  intro k
  induction k with
  | zero =>
    intro r
    rw [rF]
    constructor
    · intro h; exact ⟨[], rfl, by simpa using h, by simp⟩
    · rintro ⟨L, h1, h2, _⟩
      obtain rfl := List.eq_nil_of_length_eq_zero h1
      rw [h2]; rfl
  | succ k ih =>
    intro r
    rw [rF]
    by_cases h0 : r.length < 2
    · rw [if_pos h0]
      simp only [Bool.false_eq_true, false_iff]
      rintro ⟨L, h1, h2, _⟩
      match L, h1 with
      | l :: L, h1 =>
        rw [h2, List.flatMap_cons, List.length_append, fnB_len] at h0
        omega
    · rw [if_neg h0]
      by_cases h1 : ofB (r.take 2) < 1 ∨ 200 < ofB (r.take 2) ∨ (r.drop 2).length < 4 * ofB (r.take 2)
      · rw [if_pos h1]
        simp only [Bool.false_eq_true, false_iff]
        rintro ⟨L, h2, h3, h4⟩
        match L, h2 with
        | l :: L, h2 =>
          obtain ⟨g1, g2, g3⟩ := (fnE_iff l funcs).1 (h4 l (by simp))
          have hG : Gd l := ⟨g1, fun x hx => by
            obtain ⟨j, hj⟩ := List.getElem?_of_mem hx
            have := (g2 j (List.getElem?_eq_some_iff.1 hj).1).1
            rw [List.getD_eq_getElem?_getD, hj] at this
            exact this⟩
          obtain ⟨_, e1, e2⟩ := fn_head l (L.flatMap fnB) hG
          rw [List.flatMap_cons] at h3
          rw [h3, e1, e2, List.length_append, encs_len] at h1
          have := lenE_0 g1
          omega
      · rw [if_neg h1]
        obtain ⟨c, hc⟩ : ∃ c, ofB (r.take 2) = c := ⟨_, rfl⟩
        rw [hc] at h1 ⊢
        rw [Bool.and_eq_true, rI_iff c funcs c (r.drop 2) (by omega), ih]
        constructor
        · rintro ⟨⟨xs, z, a1, a2, a3, a4⟩, L, b1, b2, b3⟩
          have hz : (r.drop 2).drop (4 * c) = z := by rw [a2, drop_app (by rw [encs_len, a1])]
          rw [hz] at b2
          refine ⟨xs :: L, by rw [List.length_cons, b1], ?_, fun l hl => ?_⟩
          · rw [List.flatMap_cons, fnB, a1, ← hc, putB_ofB2 _ (by rw [List.length_take]; omega), List.append_assoc, ← b2, ← a2, List.take_append_drop]
          · rcases List.mem_cons.1 hl with rfl | hl
            · refine (fnE_iff _ _).2 ⟨?_, fun k hk => ?_, ?_⟩
              · rw [a1]; unfold lenE; rw [if_neg (by omega), if_neg (by omega)]
              · rw [a1] at hk ⊢; exact a3 k hk
              · rw [a1]; exact a4 (by omega)
            · exact b3 l hl
        · rintro ⟨L, b1, b2, b3⟩
          match L, b1 with
          | l :: L, b1 =>
            obtain ⟨g1, g2, g3⟩ := (fnE_iff l funcs).1 (b3 l (by simp))
            have hG : Gd l := ⟨g1, fun x hx => by
              obtain ⟨j, hj⟩ := List.getElem?_of_mem hx
              have := (g2 j (List.getElem?_eq_some_iff.1 hj).1).1
              rw [List.getD_eq_getElem?_getD, hj] at this
              exact this⟩
            obtain ⟨_, e1, e2⟩ := fn_head l (L.flatMap fnB) hG
            rw [List.flatMap_cons] at b2
            rw [b2, e1] at hc
            subst hc
            rw [b2, e2]
            refine ⟨⟨l, L.flatMap fnB, rfl, rfl, g2, fun _ => g3⟩, L, by simpa using b1, drop_app (by rw [encs_len]), fun l' h' => b3 l' (List.mem_cons_of_mem _ h')⟩
theorem rightB_iff (s : List UInt8) : rightB s = true ↔ (getP s).1 = 0 := by
  constructor
  · intro h
    unfold rightB at h
    by_cases h6 : s.length < 6
    · rw [if_pos h6] at h; cases h
    · rw [if_neg h6] at h
      by_cases h3 : s.take 3 = [72, 82, 1]
      · rw [if_neg (by simpa using h3)] at h
        by_cases hc : gN s < 1 ∨ 16 < gN s ∨ 256 < gM s
        · rw [if_pos hc] at h; cases h
        · rw [if_neg hc] at h
          obtain ⟨L, h1, h2, h4⟩ := (rF_iff _ _ _).1 h
          have hcn : cntE (gM s : Int) L.length = 0 := by
            unfold cntE
            rw [if_neg (by omega), if_neg (by omega), if_neg (by omega)]
          have hp : prE (gM s : Int) L = 0 := by
            unfold prE
            rw [hcn, fnR_of L (fun k hk => by
              rw [h1]
              refine h4 _ ?_
              rw [List.getD_eq_getElem?_getD, List.getElem?_eq_getElem hk]
              exact List.getElem_mem _) _ (Nat.le_refl _)]
            simp
          have hb : prB (gM s : Int) L = s := by
            unfold prB hdB
            rw [h1, ← h2, ← h3]
            unfold gN gM
            rw [putB_ofB1 _ (by rw [List.length_take, List.length_drop]; omega), putB_ofB2 _ (by rw [List.length_take, List.length_drop]; omega)]
            have e1 : s.take 3 ++ (s.drop 3).take 1 = s.take 4 := by rw [← List.take_add]
            have e2 : s.take 4 ++ (s.drop 4).take 2 = s.take 6 := by rw [← List.take_add]
            rw [e1, e2, List.take_append_drop]
          have hg := getP_put _ _ hp
          rw [hb] at hg
          rw [hg]
      · rw [if_pos (by simpa using h3)] at h; cases h
  · intro h
    obtain ⟨⟨e, m, L⟩, hg⟩ : ∃ x, getP s = x := ⟨_, rfl⟩
    rw [hg] at h
    obtain rfl : e = 0 := h
    obtain ⟨hp, rfl⟩ := getP_got s m L hg
    obtain ⟨hc, hf⟩ := prE_0 hp
    obtain ⟨m0, m1, n0, n1⟩ := cntE_0 hc
    obtain ⟨e1, e2, e3, e4⟩ := hd_facts m L.length (L.flatMap fnB) m0 m1 n1
    have hlen := prB_len m L
    unfold rightB
    unfold prB at hlen ⊢
    rw [if_neg (by omega), e1, if_neg (by simp), e3, e4, if_neg (by omega)]
    refine (rF_iff _ _ _).2 ⟨L, rfl, rfl, fun l hl => ?_⟩
    obtain ⟨j, hj⟩ := List.getElem?_of_mem hl
    have := fnR_0 hf j (List.getElem?_eq_some_iff.1 hj).1
    rw [List.getD_eq_getElem?_getD, hj] at this
    exact this
end Go.Proofs.Ythllikmnlnakkaa.pr
