/- Rows read (layer 38): the document. -/
import Derived.Test.YtdgjlniciehjbaaDoorPcH
namespace Go.Proofs.YtdgjlniciehjbaaDoor.pc
open Go.ChangeShapes Go.WideShapes Go.ChangeAt Go.RowKit
open Go.Proofs.YtdgjlniciehjbaaDoor.gr (C2 d2 chkE Rts Rt chkE_rts PM enC recC RV.two rcheck_v check_v cel2 OP own_ltP infoI wpList_appP)
open Go.Proofs.YtdgjlniciehjbaaDoor.st Go.Proofs.YtdgjlniciehjbaaDoor.wd
set_option linter.unusedVariables false
set_option linter.unusedSimpArgs false
theorem ORset {α : Type} {k B e : Nat} {en : α → List Value} {w : World} {v : Value} {xs : List α} {g8 i : Nat} (h : OR k en w B e v xs) (hne : ∀ g, v.ownBlock = some g → g ≠ g8) (u : Value) : OR k en (w.setCell ⟨g8, i, none⟩ u) B e v xs := by
  obtain ⟨hl, h1 | ⟨g2, cap2, cur2, h0, h1, hh2, h3⟩⟩ := h
  · exact ⟨hl, .inl h1⟩
  · refine ⟨hl, .inr ⟨g2, cap2, cur2, h0, h1, ?_, h3⟩⟩
    rw [set_oth w g8 i g2 u (hne g2 (by rw [h0]; rfl))]
    exact hh2
set_option maxRecDepth 20000 in
set_option maxHeartbeats 4000000 in
theorem rread_v (T : List UInt8) (w : World) (hl : T.length ≤ 99000) :
    Calls Tryd.prog 15 #[.string ⟨T.toArray⟩] w fun e w' => ∃ a' n' c', e = .returned (.tuple #[.slice a' n' c', .int .i64 (rdE T)]) ∧ PM w' (.slice a' n' c') (rdL T) ∧ Below w.heap.size w w' := by
  obtain ⟨P, hP⟩ : ∃ P : Ending → World → Prop, (fun (e : Ending) (w' : World) => ∃ a' n' c', e = .returned (.tuple #[.slice a' n' c', .int .i64 (rdE T)]) ∧ PM w' (.slice a' n' c') (rdL T) ∧ Below w.heap.size w w') = P := ⟨_, rfl⟩
  have HFN : Hid (rdA T = none → ∀ w', Below w.heap.size w w' → P (.returned (.tuple #[.slice none 0 0, .int .i64 4])) w') := Lib.hid (by
    rintro h w' hb
    rw [← hP]
    have e1 : rdE T = 4 := by unfold rdE; rw [h]
    have e2 : rdL T = [] := by unfold rdL; rw [h]
    exact ⟨none, 0, 0, by rw [e1], by rw [e2]; exact PM.nil _, hb⟩)
  have HFE : Hid (∀ L r, rdA T = some L → chkE L = r → r ≠ 0 → ∀ w', Below w.heap.size w w' → P (.returned (.tuple #[.slice none 0 0, .int .i64 r])) w') := Lib.hid (by
    rintro L r h hr h0 w' hb
    rw [← hP]
    have e1 : rdE T = r := by unfold rdE; rw [h]; exact hr
    have e2 : rdL T = [] := by unfold rdL; rw [h]; simp only; rw [if_neg (by rw [hr]; exact h0)]
    exact ⟨none, 0, 0, by rw [e1], by rw [e2]; exact PM.nil _, hb⟩)
  have HFO : Hid (∀ L, rdA T = some L → chkE L = 0 → ∀ a' n' c' w', PM w' (.slice a' n' c') L → Below w.heap.size w w' → P (.returned (.tuple #[.slice a' n' c', .int .i64 0])) w') := Lib.hid (by
    rintro L h hr a' n' c' w' hp hb
    rw [← hP]
    have e1 : rdE T = 0 := by unfold rdE; rw [h]; exact hr
    have e2 : rdL T = L := by unfold rdL; rw [h]; simp only; rw [if_pos hr]
    exact ⟨a', n', c', by rw [e1], by rw [e2]; exact hp, hb⟩)
  rw [hP]
  clear hP
  have hsz := str_size T
  have hl1 : ¬ (200000 : Int) < (T.length : Int) := by omega
  have hl2 : ¬ 200000 < T.length := by omega
  have CL := Lib.hid (rlines_v T w (by omega))
  have HTL := Lib.hid hl
  obtain ⟨LS, hLS⟩ : ∃ LS, linV T = LS := ⟨_, rfl⟩
  have HLX : Hid (∀ x ∈ LS, x.length ≤ 99000) := Lib.hid (fun x hx => by rw [← hLS] at hx; have := lin_sub hx; omega)
  have HLN : Hid (LS.length ≤ 99001) := Lib.hid (by rw [← hLS]; have := lin_len T; omega)
  have HRA : Hid (rdA T = rdN LS LS.length) := Lib.hid (by unfold rdA; rw [hLS])
  rw [hLS] at CL
  have hr0 : Hid (rdN LS 0 = some []) := Lib.hid rfl
  clear hl hLS
  go_enter Tryd.func15, Tryd.ntmps15
  go_wp2_with fail
  refine CL.out.mono ?_
  rintro e w1 ⟨v1, rfl, hv1, hb1⟩
  obtain ⟨a1, c1, rfl, _⟩ := hv1.form
  obtain ⟨n, hn⟩ : ∃ n, LS.length = n := ⟨_, rfl⟩
  have HV1 := Lib.hid hv1
  rw [hn] at HV1 HRA HLN ⊢
  have HN := Lib.hid hn
  have HB1 := Lib.hid hb1
  have hn9 : n ≤ 99001 := HLN.out
  have ho0 : Hid (∃ rows, OP w1 w1.heap.size (.slice none 0 0) rows []) := Lib.hid ⟨[], OP.nil _ _⟩
  clear hv1 hb1 hn CL
  go_wp2_with fail
  go_loopw [5, 6] (fun s i wr => ∃ (k : Nat) (a' : Option Addr) (c' : Nat) (L : List (List C2)), i = .int .i64 (k : Int) ∧ s = .slice a' k c' ∧ k ≤ n ∧ Hid (rdN LS k = some L) ∧ Hid (∃ rows, OP wr w1.heap.size (.slice a' k c') rows L) ∧ Hid (Below w1.heap.size w1 wr) ∧ Hid (Below w.heap.size w wr)) (fun s i _ => n - (intOf i).toNat)
  case atStart => exact ⟨0, none, 0, [], rfl, rfl, by omega, hr0, ho0, Lib.hid (Below.refl _ _), HB1⟩
  case round =>
    clear hr0 ho0
    obtain ⟨k, a', c', L, rfl, rfl, hk, HR, HO, HBx, HB⟩ := hrel
    by_cases hlt : k < n
    · obtain ⟨b, o, rfl, hbl, c0⟩ := SV.at (HV1.out.below HBx.out) k hlt
      have hmem : LS.getD k [] ∈ LS := getD_mem (by rw [HN.out]; exact hlt)
      have hxl := HLX.out _ hmem
      have hRN : rdN LS (k + 1) = match rdRow (fldV (LS.getD k [])) (fldV (LS.getD k [])).length with
          | none => none
          | some l => some (L ++ [l]) := by rw [rdN, HR.out]; rfl
      obtain ⟨X, hX⟩ : ∃ X, LS.getD k [] = X := ⟨_, rfl⟩
      rw [hX] at c0 hxl hRN
      have CF := Lib.hid (rfields_v X wr (by omega))
      obtain ⟨FS, hFS⟩ : ∃ FS, fldV X = FS := ⟨_, rfl⟩
      have HFX : Hid (∀ j, j < FS.length → (∃ c t, FS.getD j [] = c :: t) ∧ (FS.getD j []).length ≤ 99000) := Lib.hid (fun j hj => by
        rw [← hFS] at hj ⊢
        exact ⟨fld_ne hj, Nat.le_trans (fld_part (getD_mem hj)) hxl⟩)
      have hfl : FS.length ≤ 99001 := by rw [← hFS]; have := fld_len X; omega
      rw [hFS] at CF hRN
      have HRN := Lib.hid hRN
      have HOp := Lib.hid HO.out
      have hkI : (k : Int) < (n : Int) := by omega
      have HB2 := Lib.hid HB.out
      have HBx2 := Lib.hid HBx.out
      clear hmem hX hFS hRN hbl HO HB HBx
      go_wp2_with fail
      refine CF.out.mono ?_
      rintro e wF ⟨vF, rfl, hvF, hbF⟩
      obtain ⟨aF, cF, rfl, _⟩ := hvF.form
      obtain ⟨m, hm⟩ : ∃ m, FS.length = m := ⟨_, rfl⟩
      have HVF := Lib.hid hvF
      rw [hm] at HVF hfl ⊢
      have HM := Lib.hid hm
      have HOF : Hid (∃ rows, OP wF w1.heap.size (.slice a' k c') rows L) := Lib.hid (by obtain ⟨rows, h9⟩ := HOp.out; exact ⟨rows, OP.below h9 hbF⟩)
      have HBF := Lib.hid (tr3 HB2.out hbF)
      have HBxF := Lib.hid (tr3 HBx2.out hbF)
      have hq0 : Hid (rdRow FS 0 = some []) := Lib.hid rfl
      have hoo : Hid (OR 2 enC wF wF.heap.size 38 (.slice none 0 0) []) := Lib.hid (OR.nil _ _ _)
      have hbb : Hid (Below wF.heap.size wF wF) := Lib.hid (Below.refl _ _)
      clear hvF hbF hm CF HOp HB2 HBx2
      go_wp2_with fail
      go_loopw [8, 9] (fun s i wr => ∃ (j : Nat) (a2 : Option Addr) (c2 : Nat) (l : List C2), i = .int .i64 (j : Int) ∧ s = .slice a2 j c2 ∧ j ≤ m ∧ Hid (rdRow FS j = some l) ∧ Hid (OR 2 enC wr wF.heap.size 38 (.slice a2 j c2) l) ∧ Hid (Below wF.heap.size wF wr)) (fun s i _ => m - (intOf i).toNat)
      case atStart => exact ⟨0, none, 0, [], rfl, rfl, by omega, hq0, hoo, hbb⟩
      case round =>
        clear hq0 hoo hbb
        obtain ⟨j, a2, c2, l, rfl, rfl, hj, HRR, HO2, HB2⟩ := hrel
        by_cases hjt : j < m
        · obtain ⟨b2, o2, rfl, hbl2, d0⟩ := SV.at (HVF.out.below HB2.out) j hjt
          obtain ⟨⟨ch, tl, hct⟩, hcl⟩ := HFX.out j (by rw [HM.out]; exact hjt)
          have hll : l.length = j := rdRow_len j l HRR.out
          have HOlt : Hid (∀ g, (Value.slice a2 j c2).ownBlock = some g → g < wr.heap.size) := Lib.hid (fun g hg => (HO2.out.lt g hg).2)
          have hRN2 : rdRow FS (j + 1) = match rdC (FS.getD j []) (j == 0) with
              | none => none
              | some c => some (l ++ [c]) := by rw [rdRow, HRR.out]; rfl
          have hjI : (j : Int) < (m : Int) := by omega
          obtain ⟨f, hf⟩ : ∃ f, (j == 0) = f := ⟨_, rfl⟩
          have hfI : ((j : Int) == 0) = f := by
            rw [← hf]
            by_cases h0 : j = 0
            · subst h0; rfl
            · have e1 : (j == 0) = false := by simpa using h0
              have e2 : ((j : Int) == 0) = false := by simp; omega
              rw [e1, e2]
          rw [hct, hf] at hRN2
          rw [hct] at d0 hcl
          have hj0N : ¬ (f = true) → 0 < j := by intro h; rw [← hf] at h; simp at h; omega
          have hSl0 : (ch :: tl).length ≤ 99000 := hcl
          have hfs := str_size (ch :: tl)
          have hat : ∀ h : 0 < (⟨(ch :: tl).toArray⟩ : ByteArray).size, (⟨(ch :: tl).toArray⟩ : ByteArray)[0]'h = ch := fun h => str_at (ch :: tl) 0 h
          have hdr := str_drop (ch :: tl) 1
          have hdr' : (⟨(ch :: tl).toArray⟩ : ByteArray).extract 1 (ch :: tl).length = ⟨tl.toArray⟩ := by rw [hfs] at hdr; exact hdr
          have hdr2 : (⟨(ch :: tl).toArray⟩ : ByteArray).extract 1 (⟨(ch :: tl).toArray⟩ : ByteArray).size = ⟨tl.toArray⟩ := hdr
          have CTn := fun w9 => rnum_v tl w9 (by simp at hSl0; omega)
          have CSn := fun w9 => rnum_v (ch :: tl) w9 (by omega)
          have hD : rdC (ch :: tl) f = if ch.toNat = 62 then okC (numV tl) true else if ch.toNat = 45 then okC (numV tl) false else if f then okC (numV (ch :: tl)) false else none := rfl
          have h1S : (1 : Int) ≤ ((ch :: tl).length : Int) := by simp only [List.length_cons]; omega
          have h1S' : 1 ≤ (ch :: tl).length := by simp
          have h0S : 0 < (ch :: tl).length := by simp
          have h0SI : (0 : Int) < ((ch :: tl).length : Int) := by simp
          obtain ⟨S, hS⟩ : ∃ S, ch :: tl = S := ⟨_, rfl⟩
          rw [hS] at d0 hRN2 hfs hat hdr' hdr2 CSn hD h1S h1S' h0S h0SI
          obtain ⟨cn, hcn⟩ : ∃ n, ch.toNat = n := ⟨_, rfl⟩
          have hcb : cn < 256 := by rw [← hcn]; exact ch.toNat_lt
          rw [hcn] at hD
          obtain ⟨n1, hn1⟩ : ∃ x, (numV tl).1 = x := ⟨_, rfl⟩
          obtain ⟨p1, ho1⟩ : ∃ x, (numV tl).2 = x := ⟨_, rfl⟩
          obtain ⟨n2, hn2⟩ : ∃ x, (numV S).1 = x := ⟨_, rfl⟩
          obtain ⟨p2, ho2⟩ : ∃ x, (numV S).2 = x := ⟨_, rfl⟩
          simp only [hn1, ho1] at CTn
          simp only [hn2, ho2] at CSn
          unfold okC at hD
          rw [hn1, ho1, hn2, ho2] at hD
          have CT := Lib.hid CTn
          have CS := Lib.hid CSn
          have HRN2 := Lib.hid hRN2
          have HD := Lib.hid hD
          obtain ⟨W1, hW1⟩ : ∃ W2, wr.alloc (.cells #[.int .i64 0, .bool false] 38) = W2 := ⟨_, rfl⟩
          obtain ⟨W2, hW2⟩ : ∃ W2, (W1.setCell ⟨wr.heap.size, 0, none⟩ (.int .i64 0)).setCell ⟨wr.heap.size, 1, none⟩ (.bool false) = W2 := ⟨_, rfl⟩
          have hX1 : W1.heap[wr.heap.size]? = some (.cells #[.int .i64 0, .bool false] 38 (0, 0)) := by rw [← hW1]; exact heap_new _ _ _
          have hb2 : Below wr.heap.size wr W2 := by rw [← hW2, ← hW1]; exact ((Below.refl _ _).alloc (Nat.le_refl _) _).trans (two_below (Nat.le_refl _))
          have hX2 : W2.heap[wr.heap.size]? = some (.cells #[.int .i64 0, .bool false] 38 (0, 0)) := by rw [← hW2]; exact two_set hX1
          have hwg : wF.heap.size ≤ wr.heap.size := HB2.out.size
          obtain ⟨g8, hg8⟩ : ∃ g, wr.heap.size = g := ⟨_, rfl⟩
          rw [hg8] at hX1 hX2 hwg hW2 HOlt
          have e0 := frz hX1 0
          have e1 := frz hX1 1
          obtain ⟨v0, v1⟩ := cel2 hX1
          have f0 := frz hX2 0
          have f1 := frz hX2 1
          obtain ⟨z0, z1⟩ := cel2 hX2
          have HX2 := Lib.hid hX2
          have HB3 := Lib.hid (tr3 HB2.out hb2)
          have HO3 := Lib.hid (OR.below HO2.out hb2)
          have HNONE : Hid (rdC S f = none → rdA T = none) := Lib.hid (fun h => by
            rw [HRA.out]
            refine rdN_stay (k := k + 1) ?_ n hlt
            rw [HRN.out]
            have h9 : rdRow FS FS.length = none := rdRow_stay (k := j + 1) (by rw [HRN2.out, h]) _ (by rw [HM.out]; exact hjt)
            rw [h9])
          have HSOME : Hid (∀ c, rdC S f = some c → rdRow FS (j + 1) = some (l ++ [c])) := Lib.hid (fun c h => by rw [HRN2.out, h])
          have HBfin : Hid (∀ w9, Below wF.heap.size wF w9 → Below w.heap.size w w9) := Lib.hid (fun w9 hb => tr3 HBF.out hb)
          clear hct hf hS hRN2 hbl2 hdr hSl0 CTn CSn hD hn1 ho1 hn2 ho2 hb2 hX2 hcl HO2
          have HLT : Hid (∀ g, (Value.slice a2 j c2).ownBlock = some g → g ≠ g8) := Lib.hid (fun g hg h => by have := (HOlt.out g hg); omega)
          by_cases h62 : cn = 62
          · subst h62
            obtain ⟨W3, hW3⟩ : ∃ W3, W2.setCell ⟨g8, 1, none⟩ (.bool true) = W3 := ⟨_, rfl⟩
            have hX3 : W3.heap[g8]? = some (.cells #[.int .i64 0, .bool true] 38 (0, 0)) := by
              rw [← hW3, set_blk W2 g8 1 _ HX2.out]
              simp [Array.set!]
            have hb3 : Below wF.heap.size wF W3 := by rw [← hW3]; exact HB3.out.setCell (p := ⟨g8, 1, none⟩) hwg _
            have HX3 := Lib.hid hX3
            have HB4 := Lib.hid hb3
            have HO4 : Hid (OR 2 enC W3 wF.heap.size 38 (.slice a2 j c2) l) := Lib.hid (by
              rw [← hW3]
              exact ORset HO3.out HLT.out _)
            obtain ⟨y0, y1⟩ := cel2 hX3
            clear hX3 hb3
            cases p1 with
            | false =>
              have HNN : Hid (rdA T = none) := Lib.hid (HNONE.out (by rw [HD.out]; simp))
              clear HD HNONE HSOME
              go_wp2_with fail
              refine (CT.out _).mono ?_
              rintro e w4 ⟨rfl, hb4⟩
              have hx4 := kb HX3.out hb4
              have f0 := frz hx4 0
              have f1 := frz hx4 1
              obtain ⟨x0, x1⟩ := cel2 hx4
              have HX4 := Lib.hid hx4
              have HB5 := Lib.hid (tr3 HB4.out hb4)
              have HO5 := Lib.hid (OR.below HO4.out hb4)
              clear hb4 hx4
              have HB6 : Hid (∀ w9, Below w4.heap.size w4 w9 → Below w.heap.size w w9) := Lib.hid (fun w9 hb => HBfin.out _ (tr3 HB5.out hb))
              go_wp2_with fail
              first | exact HFN.out HNN.out _ (HB6.out _ (Below.refl _ _)) | (go_ret2; exact HFN.out HNN.out _ (HB6.out _ (Below.refl _ _)))
            | true =>
              have HRR1 : Hid (rdRow FS (j + 1) = some (l ++ [(n1, true)])) := Lib.hid (HSOME.out _ (by rw [HD.out]; simp))
              clear HD HNONE HSOME
              go_wp2_with fail
              refine (CT.out _).mono ?_
              rintro e w4 ⟨rfl, hb4⟩
              have hx4 := kb HX3.out hb4
              have f0 := frz hx4 0
              have f1 := frz hx4 1
              obtain ⟨x0, x1⟩ := cel2 hx4
              have HX4 := Lib.hid hx4
              have HB5 := Lib.hid (tr3 HB4.out hb4)
              have HO5 := Lib.hid (OR.below HO4.out hb4)
              clear hb4 hx4
              obtain ⟨W5, hW5⟩ : ∃ W5, w4.setCell ⟨g8, 0, none⟩ (.int .i64 n1) = W5 := ⟨_, rfl⟩
              have hX5 : W5.heap[g8]? = some (.cells #[.int .i64 n1, .bool true] 38 (0, 0)) := by
                rw [← hW5, set_blk w4 g8 0 _ HX4.out]
                simp [Array.set!]
              have hb5 : Below wF.heap.size wF W5 := by rw [← hW5]; exact HB5.out.setCell (p := ⟨g8, 0, none⟩) hwg _
              have HO6 : Hid (OR 2 enC W5 wF.heap.size 38 (.slice a2 j c2) l) := Lib.hid (by
                rw [← hW5]
                exact ORset HO5.out HLT.out _)
              obtain ⟨y0, y1⟩ := cel2 hX5
              have HB6 := Lib.hid hb5
              have hs5 : wF.heap.size ≤ W5.heap.size := HB6.out.size
              have HAW : Hid (∀ w9, Below W5.heap.size W5 w9 → OR 2 enC w9 wF.heap.size 38 (.slice a2 j c2) l ∧ wF.heap.size ≤ w9.heap.size) := Lib.hid (fun w9 hb9 => ⟨OR.below HO6.out hb9, Nat.le_trans hs5 hb9.size⟩)
              have hlen : l.length ≤ 1000000 := by omega
              clear hX5 hb5
              go_wp2_with ((at_builtin; refine wpList_appR (en := enC) rfl _ _ 36 38 _ 16 rfl Tryd.underlying36 infoI rfl (by decide) recC wF.heap.size (.slice a2 j c2) l rfl ⟨W5.heap.size, 0, none⟩ 1 rfl (n1, true) (HAW.out _ ((Below.refl _ _).alloc (Nat.le_refl _) _)).1 (rec_new2 rfl) hlen (HAW.out _ ((Below.refl _ _).alloc (Nat.le_refl _) _)).2 ?_))
              intro v7 w7 ho7 hg7 hor7
              obtain ⟨va, vc, rfl⟩ := ho7.form
              have hvl : (l ++ [(n1, true)]).length = j + 1 := rdRow_len (j + 1) _ HRR1.out
              rw [hvl] at ho7 ⊢
              have HO7 := Lib.hid ho7
              have HB7 := Lib.hid (obel (w0 := wF) rfl (tr3 HB6.out ((Below.refl _ _).alloc (Nat.le_refl _) _)) (HAW.out _ ((Below.refl _ _).alloc (Nat.le_refl _) _)).1 hg7)
              clear ho7 hg7 hor7 hvl HAW
              go_wp2_with fail
              go_roundw
              case rel => exact ⟨j + 1, va, vc, _, by go_num, rfl, by omega, HRR1, HO7, HB7⟩
              case measure => first | (simp [intOf]; done) | (simp [intOf]; omega)
          have h62b : ((cn : Int) == 62) = false := by simp; omega
          by_cases h45 : cn = 45
          · subst h45
            obtain ⟨W3, hW3⟩ : ∃ W3, W2.setCell ⟨g8, 1, none⟩ (.bool false) = W3 := ⟨_, rfl⟩
            have hX3 : W3.heap[g8]? = some (.cells #[.int .i64 0, .bool false] 38 (0, 0)) := by
              rw [← hW3, set_blk W2 g8 1 _ HX2.out]
              simp [Array.set!]
            have hb3 : Below wF.heap.size wF W3 := by rw [← hW3]; exact HB3.out.setCell (p := ⟨g8, 1, none⟩) hwg _
            have HX3 := Lib.hid hX3
            have HB4 := Lib.hid hb3
            have HO4 : Hid (OR 2 enC W3 wF.heap.size 38 (.slice a2 j c2) l) := Lib.hid (by
              rw [← hW3]
              exact ORset HO3.out HLT.out _)
            obtain ⟨y0, y1⟩ := cel2 hX3
            clear hX3 hb3
            cases p1 with
            | false =>
              have HNN : Hid (rdA T = none) := Lib.hid (HNONE.out (by rw [HD.out]; simp))
              clear HD HNONE HSOME
              go_wp2_with fail
              refine (CT.out _).mono ?_
              rintro e w4 ⟨rfl, hb4⟩
              have hx4 := kb HX3.out hb4
              have f0 := frz hx4 0
              have f1 := frz hx4 1
              obtain ⟨x0, x1⟩ := cel2 hx4
              have HX4 := Lib.hid hx4
              have HB5 := Lib.hid (tr3 HB4.out hb4)
              have HO5 := Lib.hid (OR.below HO4.out hb4)
              clear hb4 hx4
              have HB6 : Hid (∀ w9, Below w4.heap.size w4 w9 → Below w.heap.size w w9) := Lib.hid (fun w9 hb => HBfin.out _ (tr3 HB5.out hb))
              go_wp2_with fail
              first | exact HFN.out HNN.out _ (HB6.out _ (Below.refl _ _)) | (go_ret2; exact HFN.out HNN.out _ (HB6.out _ (Below.refl _ _)))
            | true =>
              have HRR1 : Hid (rdRow FS (j + 1) = some (l ++ [(n1, false)])) := Lib.hid (HSOME.out _ (by rw [HD.out]; simp))
              clear HD HNONE HSOME
              go_wp2_with fail
              refine (CT.out _).mono ?_
              rintro e w4 ⟨rfl, hb4⟩
              have hx4 := kb HX3.out hb4
              have f0 := frz hx4 0
              have f1 := frz hx4 1
              obtain ⟨x0, x1⟩ := cel2 hx4
              have HX4 := Lib.hid hx4
              have HB5 := Lib.hid (tr3 HB4.out hb4)
              have HO5 := Lib.hid (OR.below HO4.out hb4)
              clear hb4 hx4
              obtain ⟨W5, hW5⟩ : ∃ W5, w4.setCell ⟨g8, 0, none⟩ (.int .i64 n1) = W5 := ⟨_, rfl⟩
              have hX5 : W5.heap[g8]? = some (.cells #[.int .i64 n1, .bool false] 38 (0, 0)) := by
                rw [← hW5, set_blk w4 g8 0 _ HX4.out]
                simp [Array.set!]
              have hb5 : Below wF.heap.size wF W5 := by rw [← hW5]; exact HB5.out.setCell (p := ⟨g8, 0, none⟩) hwg _
              have HO6 : Hid (OR 2 enC W5 wF.heap.size 38 (.slice a2 j c2) l) := Lib.hid (by
                rw [← hW5]
                exact ORset HO5.out HLT.out _)
              obtain ⟨y0, y1⟩ := cel2 hX5
              have HB6 := Lib.hid hb5
              have hs5 : wF.heap.size ≤ W5.heap.size := HB6.out.size
              have HAW : Hid (∀ w9, Below W5.heap.size W5 w9 → OR 2 enC w9 wF.heap.size 38 (.slice a2 j c2) l ∧ wF.heap.size ≤ w9.heap.size) := Lib.hid (fun w9 hb9 => ⟨OR.below HO6.out hb9, Nat.le_trans hs5 hb9.size⟩)
              have hlen : l.length ≤ 1000000 := by omega
              clear hX5 hb5
              go_wp2_with ((at_builtin; refine wpList_appR (en := enC) rfl _ _ 36 38 _ 16 rfl Tryd.underlying36 infoI rfl (by decide) recC wF.heap.size (.slice a2 j c2) l rfl ⟨W5.heap.size, 0, none⟩ 1 rfl (n1, false) (HAW.out _ ((Below.refl _ _).alloc (Nat.le_refl _) _)).1 (rec_new2 rfl) hlen (HAW.out _ ((Below.refl _ _).alloc (Nat.le_refl _) _)).2 ?_))
              intro v7 w7 ho7 hg7 hor7
              obtain ⟨va, vc, rfl⟩ := ho7.form
              have hvl : (l ++ [(n1, false)]).length = j + 1 := rdRow_len (j + 1) _ HRR1.out
              rw [hvl] at ho7 ⊢
              have HO7 := Lib.hid ho7
              have HB7 := Lib.hid (obel (w0 := wF) rfl (tr3 HB6.out ((Below.refl _ _).alloc (Nat.le_refl _) _)) (HAW.out _ ((Below.refl _ _).alloc (Nat.le_refl _) _)).1 hg7)
              clear ho7 hg7 hor7 hvl HAW
              go_wp2_with fail
              go_roundw
              case rel => exact ⟨j + 1, va, vc, _, by go_num, rfl, by omega, HRR1, HO7, HB7⟩
              case measure => first | (simp [intOf]; done) | (simp [intOf]; omega)
          have h45b : ((cn : Int) == 45) = false := by simp; omega
          cases f with
          | true =>
            have hj0 : j = 0 := by
              by_cases h9 : j = 0
              · exact h9
              · have : ((j : Int) == 0) = false := by simp; omega
                rw [this] at hfI
                simp at hfI
            have hjn1 : ¬ (0 : Int) < (j : Int) := by omega
            have hjn2 : decide ((0 : Int) < (j : Int)) = false := by simpa using hjn1
            have hjn3 : decide (0 < j) = false := by simp; omega
            clear hj0
            obtain ⟨W3, hW3⟩ : ∃ x, x = W2 := ⟨_, rfl⟩
            subst hW3
            have HX3 := HX2
            have HB4 := HB3
            have HO4 := HO3
            cases p2 with
            | false =>
              have HNN : Hid (rdA T = none) := Lib.hid (HNONE.out (by rw [HD.out]; rw [if_neg h62, if_neg h45]; simp))
              clear HD HNONE HSOME
              go_wp2_with fail
              refine (CS.out _).mono ?_
              rintro e w4 ⟨rfl, hb4⟩
              have hx4 := kb HX3.out hb4
              have f0 := frz hx4 0
              have f1 := frz hx4 1
              obtain ⟨x0, x1⟩ := cel2 hx4
              have HX4 := Lib.hid hx4
              have HB5 := Lib.hid (tr3 HB4.out hb4)
              have HO5 := Lib.hid (OR.below HO4.out hb4)
              clear hb4 hx4
              have HB6 : Hid (∀ w9, Below w4.heap.size w4 w9 → Below w.heap.size w w9) := Lib.hid (fun w9 hb => HBfin.out _ (tr3 HB5.out hb))
              go_wp2_with fail
              first | exact HFN.out HNN.out _ (HB6.out _ (Below.refl _ _)) | (go_ret2; exact HFN.out HNN.out _ (HB6.out _ (Below.refl _ _)))
            | true =>
              have HRR1 : Hid (rdRow FS (j + 1) = some (l ++ [(n2, false)])) := Lib.hid (HSOME.out _ (by rw [HD.out]; rw [if_neg h62, if_neg h45]; simp))
              clear HD HNONE HSOME
              go_wp2_with fail
              refine (CS.out _).mono ?_
              rintro e w4 ⟨rfl, hb4⟩
              have hx4 := kb HX3.out hb4
              have f0 := frz hx4 0
              have f1 := frz hx4 1
              obtain ⟨x0, x1⟩ := cel2 hx4
              have HX4 := Lib.hid hx4
              have HB5 := Lib.hid (tr3 HB4.out hb4)
              have HO5 := Lib.hid (OR.below HO4.out hb4)
              clear hb4 hx4
              obtain ⟨W5, hW5⟩ : ∃ W5, w4.setCell ⟨g8, 0, none⟩ (.int .i64 n2) = W5 := ⟨_, rfl⟩
              have hX5 : W5.heap[g8]? = some (.cells #[.int .i64 n2, .bool false] 38 (0, 0)) := by
                rw [← hW5, set_blk w4 g8 0 _ HX4.out]
                simp [Array.set!]
              have hb5 : Below wF.heap.size wF W5 := by rw [← hW5]; exact HB5.out.setCell (p := ⟨g8, 0, none⟩) hwg _
              have HO6 : Hid (OR 2 enC W5 wF.heap.size 38 (.slice a2 j c2) l) := Lib.hid (by
                rw [← hW5]
                exact ORset HO5.out HLT.out _)
              obtain ⟨y0, y1⟩ := cel2 hX5
              have HB6 := Lib.hid hb5
              have hs5 : wF.heap.size ≤ W5.heap.size := HB6.out.size
              have HAW : Hid (∀ w9, Below W5.heap.size W5 w9 → OR 2 enC w9 wF.heap.size 38 (.slice a2 j c2) l ∧ wF.heap.size ≤ w9.heap.size) := Lib.hid (fun w9 hb9 => ⟨OR.below HO6.out hb9, Nat.le_trans hs5 hb9.size⟩)
              have hlen : l.length ≤ 1000000 := by omega
              clear hX5 hb5
              go_wp2_with ((at_builtin; refine wpList_appR (en := enC) rfl _ _ 36 38 _ 16 rfl Tryd.underlying36 infoI rfl (by decide) recC wF.heap.size (.slice a2 j c2) l rfl ⟨W5.heap.size, 0, none⟩ 1 rfl (n2, false) (HAW.out _ ((Below.refl _ _).alloc (Nat.le_refl _) _)).1 (rec_new2 rfl) hlen (HAW.out _ ((Below.refl _ _).alloc (Nat.le_refl _) _)).2 ?_))
              intro v7 w7 ho7 hg7 hor7
              obtain ⟨va, vc, rfl⟩ := ho7.form
              have hvl : (l ++ [(n2, false)]).length = j + 1 := rdRow_len (j + 1) _ HRR1.out
              rw [hvl] at ho7 ⊢
              have HO7 := Lib.hid ho7
              have HB7 := Lib.hid (obel (w0 := wF) rfl (tr3 HB6.out ((Below.refl _ _).alloc (Nat.le_refl _) _)) (HAW.out _ ((Below.refl _ _).alloc (Nat.le_refl _) _)).1 hg7)
              clear ho7 hg7 hor7 hvl HAW
              go_wp2_with fail
              go_roundw
              case rel => exact ⟨j + 1, va, vc, _, by go_num, rfl, by omega, HRR1, HO7, HB7⟩
              case measure => first | (simp [intOf]; done) | (simp [intOf]; omega)
          | false =>
            have hjp := hj0N (by simp)
            have hjn1 : (0 : Int) < (j : Int) := by omega
            have hjn2 : decide ((0 : Int) < (j : Int)) = true := by simpa using hjn1
            have hjn3 : decide (0 < j) = true := by simpa using hjp
            have HNN : Hid (rdA T = none) := Lib.hid (HNONE.out (by rw [HD.out, if_neg h62, if_neg h45]; simp))
            clear HD HNONE HSOME
            obtain ⟨W3, hW3⟩ : ∃ x, x = W2 := ⟨_, rfl⟩
            subst hW3
            have HX3 := HX2
            have HB4 := HB3
            have HO4 := HO3
            cases p2 with
            | false =>
              go_wp2_with fail
              refine (CS.out _).mono ?_
              rintro e w4 ⟨rfl, hb4⟩
              have hx4 := kb HX3.out hb4
              have f0 := frz hx4 0
              have f1 := frz hx4 1
              obtain ⟨x0, x1⟩ := cel2 hx4
              have HX4 := Lib.hid hx4
              have HB5 := Lib.hid (tr3 HB4.out hb4)
              have HO5 := Lib.hid (OR.below HO4.out hb4)
              clear hb4 hx4
              have HB6 : Hid (∀ w9, Below w4.heap.size w4 w9 → Below w.heap.size w w9) := Lib.hid (fun w9 hb => HBfin.out _ (tr3 HB5.out hb))
              go_wp2_with fail
              first | exact HFN.out HNN.out _ (HB6.out _ (Below.refl _ _)) | (go_ret2; exact HFN.out HNN.out _ (HB6.out _ (Below.refl _ _)))
            | true =>
              go_wp2_with fail
              refine (CS.out _).mono ?_
              rintro e w4 ⟨rfl, hb4⟩
              have hx4 := kb HX3.out hb4
              have f0 := frz hx4 0
              have f1 := frz hx4 1
              obtain ⟨x0, x1⟩ := cel2 hx4
              have HX4 := Lib.hid hx4
              have HB5 := Lib.hid (tr3 HB4.out hb4)
              have HO5 := Lib.hid (OR.below HO4.out hb4)
              clear hb4 hx4
              have HB6 : Hid (∀ w9, Below w4.heap.size w4 w9 → Below w.heap.size w w9) := Lib.hid (fun w9 hb => HBfin.out _ (tr3 HB5.out hb))
              go_wp2_with fail
              first | exact HFN.out HNN.out _ (HB6.out _ (Below.refl _ _)) | (go_ret2; exact HFN.out HNN.out _ (HB6.out _ (Below.refl _ _)))
        · obtain rfl : j = m := by omega
          have hRK : rdN LS (k + 1) = some (L ++ [l]) := by
            rw [HRN.out, HM.out, HRR.out]
          have HRK := Lib.hid hRK
          have hLl : L.length = k := rdN_len k L HR.out
          have HOR : Hid (OR 2 enC wr w1.heap.size 38 (.slice a2 j c2) l) := Lib.hid (by
            have h9 := HBxF.out.size
            refine ⟨HO2.out.1, ?_⟩
            rcases HO2.out.2 with h | ⟨g, cap, cur, e, hg, r⟩
            · exact .inl h
            · exact .inr ⟨g, cap, cur, e, Nat.le_trans h9 hg, r⟩)
          have HOO : Hid (∃ rows, OP wr w1.heap.size (.slice a' k c') rows L) := Lib.hid (by obtain ⟨rows, h9⟩ := HOF.out; exact ⟨rows, OP.below h9 HB2.out⟩)
          have HB6 := Lib.hid (tr3 HBF.out HB2.out)
          have HBx6 := Lib.hid (tr3 HBxF.out HB2.out)
          obtain ⟨W, hW⟩ : ∃ W, wr.alloc (.cells #[.slice a2 j c2] 36) = W := ⟨_, rfl⟩
          have hbW : Below wr.heap.size wr W := by rw [← hW]; exact (Below.refl _ _).alloc (Nat.le_refl _) _
          have hXW : W.heap[wr.heap.size]? = some (.cells #[.slice a2 j c2] 36 (0, 0)) := by rw [← hW]; exact heap_new _ _ _
          have hcW := cel hXW 0
          obtain ⟨rows, hop⟩ := HOO.out
          have HOW := Lib.hid (OP.below hop hbW)
          have HORW := Lib.hid (OR.below HOR.out hbW)
          have HBW := Lib.hid (tr3 HB6.out hbW)
          have HBxW := Lib.hid (tr3 HBx6.out hbW)
          have hszW : w.heap.size ≤ W.heap.size := HBW.out.size
          have hszW1 : w1.heap.size ≤ W.heap.size := HBxW.out.size
          have hLk : L.length ≤ 100000 := by omega
          clear hop hXW hbW hRK hLl
          go_wp2_with ((at_builtin; refine wpList_appP rfl _ _ rfl w1.heap.size (.slice a' k c') rows L rfl ⟨wr.heap.size, 0, none⟩ 1 rfl (.slice a2 j c2) l HOW.out hcW HORW.out rfl hLk hszW1 ?_))
          intro v7 w7 ho7 hg7 hor7
          have hl1 : (L ++ [l]).length = k + 1 := rdN_len (k + 1) _ HRK.out
          obtain ⟨a7, c7, e7⟩ : ∃ a7 c7, v7 = .slice a7 (k + 1) c7 := by
            obtain ⟨hl0, h | ⟨g, cap, cur, e, r⟩⟩ := ho7.1
            · exfalso; simp at hl1; simp at h
            · rw [hl1] at e; exact ⟨_, _, e⟩
          subst e7
          have HO7 : Hid (∃ rows, OP w7 w1.heap.size (.slice a7 (k + 1) c7) rows (L ++ [l])) := Lib.hid ⟨_, ho7⟩
          have HBx7 : Hid (Below w1.heap.size w1 w7) := Lib.hid (HBxW.out.trans ⟨hg7.os, hg7.tape, hg7.output, hg7.size, fun p hp => hg7.block p (Nat.lt_of_lt_of_le hp hszW1) (fun e => by have := (own_ltP HOW.out.1 p e.symm).1; omega)⟩)
          have HB7 := Lib.hid (tr3 HB1.out HBx7.out)
          clear ho7 hg7 hor7 hl1 HOW HORW
          go_wp2_with fail
          go_roundw
          case rel => exact ⟨k + 1, a7, c7, _, by go_num, rfl, by omega, HRK, HO7, HBx7, HB7⟩
          case measure => first | (simp [intOf]; done) | (simp [intOf]; omega)
    · obtain rfl : k = n := by omega
      obtain ⟨r, hr⟩ : ∃ r, chkE L = r := ⟨_, rfl⟩
      obtain ⟨rows, hop⟩ := HO.out
      have hpm := hop.pm
      have HPM := Lib.hid hpm
      have CK := Lib.hid (rcheck_v a' k c' L r wr hpm hr)
      have hA : rdA T = some L := by rw [HRA.out, HR.out]
      have HA := Lib.hid hA
      have HRE := Lib.hid hr
      clear hop hpm hA hr
      go_wp2_with fail
      refine CK.out.mono ?_
      rintro e w8 ⟨rfl, hb8⟩
      have HB8 := Lib.hid (tr3 HB.out hb8)
      have HP8 := Lib.hid (HPM.out.below hb8)
      clear hb8 CK
      by_cases hr0 : r = 0
      · subst hr0
        go_wp2_with fail
        first | exact HFO.out _ HA.out HRE.out _ _ _ _ HP8.out HB8.out | (go_ret2; exact HFO.out _ HA.out HRE.out _ _ _ _ HP8.out HB8.out)
      · have h1 : (r != 0) = true := by simpa using hr0
        have h2 : (r == 0) = false := by simpa using hr0
        go_wp2_with fail
        first | exact HFE.out _ _ HA.out HRE.out hr0 _ HB8.out | (go_ret2; exact HFE.out _ _ HA.out HRE.out hr0 _ HB8.out)
end Go.Proofs.YtdgjlniciehjbaaDoor.pc
