/- Rows read (layer 38): the program. -/
import Derived.Test.YtdgjlniciehjbaaDoorPcG
namespace Go.Proofs.YtdgjlniciehjbaaDoor.pc
open Go.ChangeShapes Go.WideShapes Go.ChangeAt Go.RowKit
open Go.Proofs.YtdgjlniciehjbaaDoor.gr (C2 d2 chkE Rts Rt chkE_rts PM enC recC RV.two rcheck_v check_v cel2 OP own_ltP infoI wpList_appP)
open Go.Proofs.YtdgjlniciehjbaaDoor.st Go.Proofs.YtdgjlniciehjbaaDoor.wd
set_option linter.unusedVariables false
set_option linter.unusedSimpArgs false
theorem rec_new2 {w : World} {x : Int} {b : Bool} {e g : Nat} (hg : w.heap.size = g) : ∀ j u, (enC (x, b))[j]? = some u → (w.alloc (.cells #[.int .i64 x, .bool b] e)).cell? ((⟨g, 0, none⟩ : Addr).add j) = some u := by
  intro j u hu
  subst hg
  have := heap_new w #[.int .i64 x, .bool b] e
  rw [Go.WideShapes.add_plain, Nat.zero_add]
  match j, hu with
  | 0, hu => simp [enC] at hu; subst hu; rw [cel this]; rfl
  | 1, hu => simp [enC] at hu; subst hu; rw [cel this]; rfl
  | j + 2, hu => simp [enC] at hu
theorem spl_len2 (c : UInt8) (l : List UInt8) : ∀ x ∈ spl c l, x.length ≤ l.length := spl_part c l
theorem fld_part {l x : List UInt8} (h : x ∈ fldV l) : x.length ≤ l.length := by
  unfold fldV at h
  exact spl_part 32 l x (List.mem_filter.1 h).1
theorem fld_len (l : List UInt8) : (fldV l).length ≤ l.length + 1 := by
  unfold fldV
  exact Nat.le_trans (List.length_filter_le _ _) (spl_len 32 l)
theorem lin_sub {l x : List UInt8} (h : x ∈ linV l) : x.length ≤ l.length := by
  rw [linV_eq] at h
  split at h
  · exact spl_part 10 l x (List.mem_of_mem_take h)
  · exact spl_part 10 l x h
theorem lin_len (l : List UInt8) : (linV l).length ≤ l.length + 1 := by
  rw [linV_eq]
  have := spl_len 10 l
  split
  · exact Nat.le_trans (List.length_take_le _ _) (by omega)
  · exact this
theorem getD_mem {α : Type} {l : List α} {d : α} {k : Nat} (h : k < l.length) : l.getD k d ∈ l := by
  rw [List.getD_eq_getElem?_getD, List.getElem?_eq_getElem h]
  exact List.getElem_mem _
set_option maxRecDepth 20000 in
set_option maxHeartbeats 4000000 in
theorem read_v (T : List UInt8) (w : World) (hl : T.length ≤ 99000) (hN : NM w) :
    Calls Tryd.prog 13 #[.string ⟨T.toArray⟩] w fun e w' => ∃ a' n' c', e = .returned (.tuple #[.slice a' n' c', .int .i64 (rdE T)]) ∧ PM w' (.slice a' n' c') (rdL T) ∧ Below w.heap.size w w' := by
  obtain ⟨P, hP⟩ : ∃ P : Ending → World → Prop, (fun (e : Ending) (w' : World) => ∃ a' n' c', e = .returned (.tuple #[.slice a' n' c', .int .i64 (rdE T)]) ∧ PM w' (.slice a' n' c') (rdL T) ∧ Below w.heap.size w w') = P := ⟨_, rfl⟩
  have HFN : Hid (rdA T = none → ∀ w', Below w.heap.size w w' → P (.returned (.tuple #[.slice none 0 0, .int .i64 4])) w') := Lib.hid (by
    rintro h w' hb
    rw [← hP]
    have e1 : rdE T = 4 := by unfold rdE; rw [h]
    have e2 : rdL T = [] := by unfold rdL; rw [h]
    exact ⟨none, 0, 0, by rw [e1], by rw [e2]; exact PM.nil _, hb⟩)
  have HFE : Hid (∀ L r, rdA T = some L → chkE L = r → r ≠ 0 → ∀ w', Below w.heap.size w w' → P (.returned (.tuple #[.slice none 0 0, .int .i64 r])) w') := Lib.hid (by
    rintro L r h hr h0 w' hb
    rw [← hP]
    have e1 : rdE T = r := by unfold rdE; rw [h]; exact hr
    have e2 : rdL T = [] := by unfold rdL; rw [h]; simp only; rw [if_neg (by rw [hr]; exact h0)]
    exact ⟨none, 0, 0, by rw [e1], by rw [e2]; exact PM.nil _, hb⟩)
  have HFO : Hid (∀ L, rdA T = some L → chkE L = 0 → ∀ a' n' c' w', PM w' (.slice a' n' c') L → Below w.heap.size w w' → P (.returned (.tuple #[.slice a' n' c', .int .i64 0])) w') := Lib.hid (by
    rintro L h hr a' n' c' w' hp hb
    rw [← hP]
    have e1 : rdE T = 0 := by unfold rdE; rw [h]; exact hr
    have e2 : rdL T = L := by unfold rdL; rw [h]; simp only; rw [if_pos hr]
    exact ⟨a', n', c', by rw [e1], by rw [e2]; exact hp, hb⟩)
  rw [hP]
  clear hP
  have hsz := str_size T
  have hl1 : ¬ (200000 : Int) < (T.length : Int) := by omega
  have hl2 : ¬ 200000 < T.length := by omega
  have CL := Lib.hid (wlines_v T w (by omega) hN)
  have HNM := Lib.hid hN
  have HTL := Lib.hid hl
  obtain ⟨LS, hLS⟩ : ∃ LS, linV T = LS := ⟨_, rfl⟩
  have HLX : Hid (∀ x ∈ LS, x.length ≤ 99000) := Lib.hid (fun x hx => by rw [← hLS] at hx; have := lin_sub hx; omega)
  have HLN : Hid (LS.length ≤ 99001) := Lib.hid (by rw [← hLS]; have := lin_len T; omega)
  have HRA : Hid (rdA T = rdN LS LS.length) := Lib.hid (by unfold rdA; rw [hLS])
  rw [hLS] at CL
  have hr0 : Hid (rdN LS 0 = some []) := Lib.hid rfl
  clear hN hl hLS
  go_enter Tryd.func13, Tryd.ntmps13
  go_wp2_with fail
  refine CL.out.mono ?_
  rintro e w1 ⟨v1, rfl, hv1, hb1⟩
  obtain ⟨a1, c1, rfl, _⟩ := hv1.form
  obtain ⟨n, hn⟩ : ∃ n, LS.length = n := ⟨_, rfl⟩
  have HV1 := Lib.hid hv1
  rw [hn] at HV1 HRA HLN ⊢
  have HN := Lib.hid hn
  have HB1 := Lib.hid hb1
  have hn9 : n ≤ 99001 := HLN.out
  have ho0 : Hid (∃ rows, OP w1 w1.heap.size (.slice none 0 0) rows []) := Lib.hid ⟨[], OP.nil _ _⟩
  clear hv1 hb1 hn CL
  go_wp2_with fail
  go_loopw [4, 19] (fun s i wr => ∃ (k : Nat) (a' : Option Addr) (c' : Nat) (L : List (List C2)), i = .int .i64 (k : Int) ∧ s = .slice a' k c' ∧ k ≤ n ∧ Hid (rdN LS k = some L) ∧ Hid (∃ rows, OP wr w1.heap.size (.slice a' k c') rows L) ∧ Hid (Below w1.heap.size w1 wr) ∧ Hid (Below w.heap.size w wr)) (fun s i _ => n - (intOf i).toNat)
  case atStart => exact ⟨0, none, 0, [], rfl, rfl, by omega, hr0, ho0, Lib.hid (Below.refl _ _), HB1⟩
  case round =>
    clear hr0 ho0
    obtain ⟨k, a', c', L, rfl, rfl, hk, HR, HO, HBx, HB⟩ := hrel
    by_cases hlt : k < n
    · obtain ⟨b, o, rfl, hbl, c0⟩ := SV.at (HV1.out.below HBx.out) k hlt
      have hmem : LS.getD k [] ∈ LS := getD_mem (by rw [HN.out]; exact hlt)
      have hxl := HLX.out _ hmem
      have hRN : rdN LS (k + 1) = match rdRow (fldV (LS.getD k [])) (fldV (LS.getD k [])).length with
          | none => none
          | some l => some (L ++ [l]) := by rw [rdN, HR.out]; rfl
      obtain ⟨X, hX⟩ : ∃ X, LS.getD k [] = X := ⟨_, rfl⟩
      rw [hX] at c0 hxl hRN
      have CF := Lib.hid (wfields_v X wr (by omega))
      obtain ⟨FS, hFS⟩ : ∃ FS, fldV X = FS := ⟨_, rfl⟩
      have HFX : Hid (∀ j, j < FS.length → (∃ c t, FS.getD j [] = c :: t) ∧ (FS.getD j []).length ≤ 99000) := Lib.hid (fun j hj => by
        rw [← hFS] at hj ⊢
        exact ⟨fld_ne hj, Nat.le_trans (fld_part (getD_mem hj)) hxl⟩)
      have hfl : FS.length ≤ 99001 := by rw [← hFS]; have := fld_len X; omega
      rw [hFS] at CF hRN
      have HRN := Lib.hid hRN
      have HOp := Lib.hid HO.out
      have hkI : (k : Int) < (n : Int) := by omega
      have HB2 := Lib.hid HB.out
      have HBx2 := Lib.hid HBx.out
      clear hmem hX hFS hRN hbl HO HB HBx
      go_wp2_with fail
      refine CF.out.mono ?_
      rintro e wF ⟨vF, rfl, hvF, hbF⟩
      obtain ⟨aF, cF, rfl, _⟩ := hvF.form
      obtain ⟨m, hm⟩ : ∃ m, FS.length = m := ⟨_, rfl⟩
      have HVF := Lib.hid hvF
      rw [hm] at HVF hfl ⊢
      have HM := Lib.hid hm
      have HOF : Hid (∃ rows, OP wF w1.heap.size (.slice a' k c') rows L) := Lib.hid (by obtain ⟨rows, h9⟩ := HOp.out; exact ⟨rows, OP.below h9 hbF⟩)
      have HBF := Lib.hid (tr3 HB2.out hbF)
      have HBxF := Lib.hid (tr3 HBx2.out hbF)
      have hq0 : Hid (rdRow FS 0 = some []) := Lib.hid rfl
      have hoo : Hid (OR 2 enC wF wF.heap.size 38 (.slice none 0 0) []) := Lib.hid (OR.nil _ _ _)
      have hbb : Hid (Below wF.heap.size wF wF) := Lib.hid (Below.refl _ _)
      clear hvF hbF hm CF HOp HB2 HBx2
      go_wp2_with fail
      go_loopw [7, 26] (fun s i wr => ∃ (j : Nat) (a2 : Option Addr) (c2 : Nat) (l : List C2), i = .int .i64 (j : Int) ∧ s = .slice a2 j c2 ∧ j ≤ m ∧ Hid (rdRow FS j = some l) ∧ Hid (OR 2 enC wr wF.heap.size 38 (.slice a2 j c2) l) ∧ Hid (Below wF.heap.size wF wr)) (fun s i _ => m - (intOf i).toNat)
      case atStart => exact ⟨0, none, 0, [], rfl, rfl, by omega, hq0, hoo, hbb⟩
      case round =>
        clear hq0 hoo hbb
        obtain ⟨j, a2, c2, l, rfl, rfl, hj, HRR, HO2, HB2⟩ := hrel
        by_cases hjt : j < m
        · obtain ⟨b2, o2, rfl, hbl2, d0⟩ := SV.at (HVF.out.below HB2.out) j hjt
          obtain ⟨⟨ch, tl, hct⟩, hcl⟩ := HFX.out j (by rw [HM.out]; exact hjt)
          have hll : l.length = j := rdRow_len j l HRR.out
          have hRN2 : rdRow FS (j + 1) = match rdC (FS.getD j []) (j == 0) with
              | none => none
              | some c => some (l ++ [c]) := by rw [rdRow, HRR.out]; rfl
          have hjI : (j : Int) < (m : Int) := by omega
          obtain ⟨f, hf⟩ : ∃ f, (j == 0) = f := ⟨_, rfl⟩
          have hfI : ((j : Int) == 0) = f := by
            rw [← hf]
            by_cases h0 : j = 0
            · subst h0; rfl
            · have e1 : (j == 0) = false := by simpa using h0
              have e2 : ((j : Int) == 0) = false := by simp; omega
              rw [e1, e2]
          rw [hct, hf] at hRN2
          rw [hct] at d0 hcl
          have CC := Lib.hid (readCell_v ch tl f wr (by omega) (HNM.out.below (tr3 HBF.out HB2.out)))
          obtain ⟨S, hS⟩ : ∃ S, ch :: tl = S := ⟨_, rfl⟩
          rw [hS] at CC d0 hRN2
          have HRN2 := Lib.hid hRN2
          clear hct hf hS hRN2 hbl2
          go_wp2_with fail
          refine CC.out.mono ?_
          rintro e w3 ⟨x, xb, ok, rfl, hrd, hb3⟩
          have HRD := Lib.hid hrd
          have HB3 := Lib.hid (tr3 HB2.out hb3)
          have HO3 := Lib.hid (OR.below HO2.out hb3)
          clear hrd hb3 CC HO2
          cases ok with
          | false =>
            have hnone : rdA T = none := by
              rw [HRA.out]
              refine rdN_stay (k := k + 1) ?_ n hlt
              rw [HRN.out]
              have h9 : rdRow FS FS.length = none := rdRow_stay (k := j + 1) (by rw [HRN2.out, HRD.out]; rfl) _ (by rw [HM.out]; exact hjt)
              rw [h9]
            have HNN := Lib.hid hnone
            clear hnone
            have HB4 : Hid (∀ w9, Below w3.heap.size w3 w9 → Below w.heap.size w w9) := Lib.hid (fun w9 hb => tr3 (tr3 HBF.out HB3.out) hb)
            go_wp2_with fail
            first | exact HFN.out HNN.out _ (HB4.out _ ((Below.refl _ _).alloc (Nat.le_refl _) _)) | (go_ret2; exact HFN.out HNN.out _ (HB4.out _ ((Below.refl _ _).alloc (Nat.le_refl _) _)))
          | true =>
            have HRR1 : Hid (rdRow FS (j + 1) = some (l ++ [(x, xb)])) := Lib.hid (by rw [HRN2.out, HRD.out]; rfl)
            obtain ⟨W4, hW4⟩ : ∃ W4, w3.alloc (.cells #[.int .i64 x, .bool xb] 38) = W4 := ⟨_, rfl⟩
            have hb4 : Below w3.heap.size w3 W4 := by rw [← hW4]; exact (Below.refl _ _).alloc (Nat.le_refl _) _
            have hX4 : W4.heap[w3.heap.size]? = some (.cells #[.int .i64 x, .bool xb] 38 (0, 0)) := by rw [← hW4]; exact heap_new _ _ _
            obtain ⟨g8, hg8⟩ : ∃ g, w3.heap.size = g := ⟨_, rfl⟩
            rw [hg8] at hX4
            obtain ⟨z0, z1⟩ := cel2 hX4
            have HB4 := Lib.hid (tr3 HB3.out hb4)
            have HO4 := Lib.hid (OR.below HO3.out hb4)
            have hs4 : wF.heap.size ≤ W4.heap.size := HB4.out.size
            have HAW : Hid (∀ w9, Below W4.heap.size W4 w9 → OR 2 enC w9 wF.heap.size 38 (.slice a2 j c2) l ∧ wF.heap.size ≤ w9.heap.size) := Lib.hid (fun w9 hb9 => ⟨OR.below HO4.out hb9, Nat.le_trans hs4 hb9.size⟩)
            have hlen : l.length ≤ 1000000 := by omega
            clear hb4 hX4 HO3 hll
            go_wp2_with ((at_builtin; refine wpList_appR (en := enC) rfl _ _ 36 38 _ 16 rfl Tryd.underlying36 infoI rfl (by decide) recC wF.heap.size (.slice a2 j c2) l rfl ⟨W4.heap.size, 0, none⟩ 1 rfl (x, xb) (HAW.out _ ((Below.refl _ _).alloc (Nat.le_refl _) _)).1 (rec_new2 rfl) hlen (HAW.out _ ((Below.refl _ _).alloc (Nat.le_refl _) _)).2 ?_))
            intro v5 w5 ho5 hg5 hor5
            obtain ⟨va, vc, rfl⟩ := ho5.form
            have hvl : (l ++ [(x, xb)]).length = j + 1 := rdRow_len (j + 1) _ HRR1.out
            rw [hvl] at ho5 ⊢
            have HO5 := Lib.hid ho5
            have HB5 := Lib.hid (obel (w0 := wF) rfl (tr3 HB4.out ((Below.refl _ _).alloc (Nat.le_refl _) _)) (HAW.out _ ((Below.refl _ _).alloc (Nat.le_refl _) _)).1 hg5)
            clear ho5 hg5 hor5 hvl HAW HO4 HB4
            go_wp2_with fail
            go_roundw
            case rel => exact ⟨j + 1, va, vc, _, by go_num, rfl, by omega, HRR1, HO5, HB5⟩
            case measure => first | (simp [intOf]; done) | (simp [intOf]; omega)
        · obtain rfl : j = m := by omega
          have hRK : rdN LS (k + 1) = some (L ++ [l]) := by
            rw [HRN.out, HM.out, HRR.out]
          have HRK := Lib.hid hRK
          have hLl : L.length = k := rdN_len k L HR.out
          have HOR : Hid (OR 2 enC wr w1.heap.size 38 (.slice a2 j c2) l) := Lib.hid (by
            have h9 := HBxF.out.size
            refine ⟨HO2.out.1, ?_⟩
            rcases HO2.out.2 with h | ⟨g, cap, cur, e, hg, r⟩
            · exact .inl h
            · exact .inr ⟨g, cap, cur, e, Nat.le_trans h9 hg, r⟩)
          have HOO : Hid (∃ rows, OP wr w1.heap.size (.slice a' k c') rows L) := Lib.hid (by obtain ⟨rows, h9⟩ := HOF.out; exact ⟨rows, OP.below h9 HB2.out⟩)
          have HB6 := Lib.hid (tr3 HBF.out HB2.out)
          have HBx6 := Lib.hid (tr3 HBxF.out HB2.out)
          obtain ⟨W, hW⟩ : ∃ W, wr.alloc (.cells #[.slice a2 j c2] 36) = W := ⟨_, rfl⟩
          have hbW : Below wr.heap.size wr W := by rw [← hW]; exact (Below.refl _ _).alloc (Nat.le_refl _) _
          have hXW : W.heap[wr.heap.size]? = some (.cells #[.slice a2 j c2] 36 (0, 0)) := by rw [← hW]; exact heap_new _ _ _
          have hcW := cel hXW 0
          obtain ⟨rows, hop⟩ := HOO.out
          have HOW := Lib.hid (OP.below hop hbW)
          have HORW := Lib.hid (OR.below HOR.out hbW)
          have HBW := Lib.hid (tr3 HB6.out hbW)
          have HBxW := Lib.hid (tr3 HBx6.out hbW)
          have hszW : w.heap.size ≤ W.heap.size := HBW.out.size
          have hszW1 : w1.heap.size ≤ W.heap.size := HBxW.out.size
          have hLk : L.length ≤ 100000 := by omega
          clear hop hXW hbW hRK hLl
          go_wp2_with ((at_builtin; refine wpList_appP rfl _ _ rfl w1.heap.size (.slice a' k c') rows L rfl ⟨wr.heap.size, 0, none⟩ 1 rfl (.slice a2 j c2) l HOW.out hcW HORW.out rfl hLk hszW1 ?_))
          intro v7 w7 ho7 hg7 hor7
          have hl1 : (L ++ [l]).length = k + 1 := rdN_len (k + 1) _ HRK.out
          obtain ⟨a7, c7, e7⟩ : ∃ a7 c7, v7 = .slice a7 (k + 1) c7 := by
            obtain ⟨hl0, h | ⟨g, cap, cur, e, r⟩⟩ := ho7.1
            · exfalso; simp at hl1; simp at h
            · rw [hl1] at e; exact ⟨_, _, e⟩
          subst e7
          have HO7 : Hid (∃ rows, OP w7 w1.heap.size (.slice a7 (k + 1) c7) rows (L ++ [l])) := Lib.hid ⟨_, ho7⟩
          have HBx7 : Hid (Below w1.heap.size w1 w7) := Lib.hid (HBxW.out.trans ⟨hg7.os, hg7.tape, hg7.output, hg7.size, fun p hp => hg7.block p (Nat.lt_of_lt_of_le hp hszW1) (fun e => by have := (own_ltP HOW.out.1 p e.symm).1; omega)⟩)
          have HB7 := Lib.hid (tr3 HB1.out HBx7.out)
          clear ho7 hg7 hor7 hl1 HOW HORW
          go_wp2_with fail
          go_roundw
          case rel => exact ⟨k + 1, a7, c7, _, by go_num, rfl, by omega, HRK, HO7, HBx7, HB7⟩
          case measure => first | (simp [intOf]; done) | (simp [intOf]; omega)
    · obtain rfl : k = n := by omega
      obtain ⟨r, hr⟩ : ∃ r, chkE L = r := ⟨_, rfl⟩
      obtain ⟨rows, hop⟩ := HO.out
      have hpm := hop.pm
      have HPM := Lib.hid hpm
      have CK := Lib.hid (check_v a' k c' L r wr hpm hr)
      have hA : rdA T = some L := by rw [HRA.out, HR.out]
      have HA := Lib.hid hA
      have HRE := Lib.hid hr
      clear hop hpm hA hr
      go_wp2_with fail
      refine CK.out.mono ?_
      rintro e w8 ⟨rfl, hb8⟩
      have HB8 := Lib.hid (tr3 HB.out hb8)
      have HP8 := Lib.hid (HPM.out.below hb8)
      clear hb8 CK
      by_cases hr0 : r = 0
      · subst hr0
        go_wp2_with fail
        first | exact HFO.out _ HA.out HRE.out _ _ _ _ HP8.out HB8.out | (go_ret2; exact HFO.out _ HA.out HRE.out _ _ _ _ HP8.out HB8.out)
      · have h1 : (r != 0) = true := by simpa using hr0
        have h2 : (r == 0) = false := by simpa using hr0
        go_wp2_with fail
        first | exact HFE.out _ _ HA.out HRE.out hr0 _ HB8.out | (go_ret2; exact HFE.out _ _ HA.out HRE.out hr0 _ HB8.out)
end Go.Proofs.YtdgjlniciehjbaaDoor.pc
