/- ReplayPacks: scripts in short (layer 43). -/
import Derived.Test.YtokkgfefiblmiaaRpI
import Derived.Test.YtokkgfefiblmiaaGrids
import Derived.Deep.Grids
namespace Go.Proofs.Ytokkgfefiblmiaa.replayPacks
open Go.ChangeShapes Go.WideShapes Go.ChangeAt Go.RowKit
open Go.Proofs.Ytokkgfefiblmiaa.rp
set_option linter.unusedVariables false
set_option linter.unusedSimpArgs false
def pairL (Z : Nat → Nat → Int) (n : Nat) : List P2 := (List.range n).map fun i => (Z i 0, Z i 1)
theorem rv_grid {w : World} {a : Option Addr} {len cap : Nat} {z : Nat → Nat → Int} (h : IsGrid [.i64, .i64] w a len cap z) : RV 2 enQ w (.slice a len cap) (pairL z len) := by
  have hlen : (pairL z len).length = len := by simp [pairL]
  rcases h with ⟨rfl, rfl, rfl⟩ | ⟨x, rfl, hl, hm, hc⟩
  · exact RV.zero2 (Nat.zero_le _) (fun _ => rfl)
  · refine ⟨some x, cap, by rw [hlen], by rw [hlen]; exact hl, hm, (fun h => by cases h), fun i q hq => ?_⟩
    have hi : i < len := by have := (List.getElem?_eq_some_iff.1 hq).1; rw [hlen] at this; exact this
    unfold pairL at hq
    rw [List.getElem?_map, List.getElem?_range hi] at hq
    obtain rfl := Option.some.inj hq
    obtain ⟨b, o, spot⟩ := x
    have h0 := (hc i (by omega) 0 .i64 rfl).1
    have hspot : spot = none := by simpa [Addr.add] using World.cell?_spot (hc 0 (by omega) 0 .i64 rfl).1
    subst hspot
    rw [Go.WideShapes.add_plain] at h0
    refine ⟨b, o, rfl, World.block_lt_of_cell? w _ h0, fun j u hu => ?_⟩
    rw [← Go.WideShapes.add_plain]
    match j, hu with
    | 0, hu => simp [enQ] at hu; subst hu; exact (hc i (by omega) 0 .i64 rfl).1
    | 1, hu => simp [enQ] at hu; subst hu; exact (hc i (by omega) 1 .i64 rfl).1
    | j + 2, hu => simp [enQ] at hu
set_option maxRecDepth 20000 in
set_option maxHeartbeats 4000000 in
theorem core (a : Option Addr) (n c : Nat) (l : List P2) (L : List UInt8) (w : World) (h : RV 2 enQ w (.slice a n c) l) (hL : L.length ≤ maxLen) :
    Calls Try.prog 4 #[.slice a n c, .string ⟨L.toArray⟩] w fun e w' => e = .returned (.bool true) ∧ Below w.heap.size w w' := by
  obtain ⟨hnl, hnc, hcm⟩ := h.len
  unfold maxLen at hcm hL
  have HR0 := Lib.hid h
  have HNL := Lib.hid hnl
  have HWK := Lib.hid (works_v w)
  have hsz := str_size L
  obtain ⟨s, hs⟩ : ∃ s, L.length = s := ⟨_, rfl⟩
  have HSL := Lib.hid hs
  rw [hs] at hsz hL
  clear h hnl hs
  go_enter Try.func4, Try.ntmps4
  go_wp2_with fail
  refine HWK.out.mono ?_
  rintro e w0 ⟨rfl, hb0⟩
  have HB0 := Lib.hid hb0
  clear HWK hb0
  by_cases h7 : n ≤ 700
  · by_cases h6 : s ≤ 60
    · have h7I : ¬ (700 : Int) < (n : Int) := by omega
      have h6I : ¬ (60 : Int) < (s : Int) := by omega
      have H0 := Lib.hid (own_v a n c l w0 (HR0.out.below HB0.out) (by omega))
      go_wp2_with fail
      refine H0.out.mono ?_
      rintro e w1 ⟨⟨oa, oc, rfl, hr1⟩, hb1⟩
      have HB1 := Lib.hid (tr3 HB0.out hb1)
      have H1 := Lib.hid (pack_v oa n oc l w1 hr1 (by omega))
      clear hr1 hb1 H0
      go_wp2_with fail
      refine H1.out.mono ?_
      rintro e w2 h2
      obtain ⟨he2, hb2⟩ := pk_uni h2
      obtain ⟨A, hA⟩ : ∃ A, PkA l = A := ⟨_, rfl⟩
      obtain ⟨ec, hec⟩ : ∃ ec, PkC l = ec := ⟨_, rfl⟩
      rw [hA, hec] at he2
      subst he2
      have HA := Lib.hid hA
      have HEC := Lib.hid hec
      have HB2 := Lib.hid (tr3 HB1.out hb2)
      have H2 := Lib.hid (rpack_v a n c l w2 (HR0.out.below HB2.out) (by omega))
      clear h2 hb2 H1 hA hec
      go_wp2_with fail
      refine H2.out.mono ?_
      rintro e w3 h3
      obtain ⟨he3, hb3⟩ := pk_uni h3
      rw [HA.out, HEC.out] at he3
      subst he3
      have HB3 := Lib.hid (tr3 HB2.out hb3)
      have H3 := Lib.hid (unpack_v L w3 (by rw [HSL.out]; omega))
      clear h3 hb3 H2
      go_wp2_with fail
      refine H3.out.mono ?_
      rintro e w4 h4
      obtain ⟨⟨ma, mn, mc, he4, hr4⟩, hb4⟩ := up_uni h4
      obtain ⟨gc, hgc⟩ : ∃ gc, UpC L = gc := ⟨_, rfl⟩
      obtain ⟨m, hm⟩ : ∃ m, UpA L = m := ⟨_, rfl⟩
      rw [hgc] at he4
      rw [hm] at hr4
      subst he4
      have HGC := Lib.hid hgc
      have HM := Lib.hid hm
      have HR4 := Lib.hid hr4
      have HB4 := Lib.hid (tr3 HB3.out hb4)
      have H4 := Lib.hid (runpack_v L w4 (by rw [HSL.out]; omega))
      have HML : Hid (mn ≤ 6000 ∧ mn = m.length ∧ m.length ≤ 256 * 60) := Lib.hid (by
        have h1 := hr4.len.1
        have h2 := upa_len L
        have h3 : (UpA L).length * 3 ≤ 256 * L.length := by
          rcases up_cases L with ⟨_, h⟩ | ⟨_, h⟩
          · rw [h]; exact up_len L
          · rw [h]; exact Nat.zero_le _
        rw [hm, HSL.out] at h3
        omega)
      clear h4 hr4 hb4 H3 hgc hm
      go_wp2_with fail
      refine H4.out.mono ?_
      rintro e w5 h5
      obtain ⟨⟨na, nn, nc, he5, hr5⟩, hb5⟩ := up_uni h5
      rw [HGC.out] at he5
      rw [HM.out] at hr5
      subst he5
      have HR5 := Lib.hid hr5
      have HB45 := Lib.hid hb5
      have HB5 := Lib.hid (tr3 HB4.out hb5)
      have H5 := Lib.hid (unpack_v A w5 (by have := (pk_len l).1; rw [HA.out] at this; have := HNL.out; omega))
      clear h5 hr5 hb5 H4
      go_wp2_with fail
      refine H5.out.mono ?_
      rintro e w6 h6b
      obtain ⟨⟨ba, bn, bc, he6, hr6⟩, hb6⟩ := up_uni h6b
      obtain ⟨ic, hic⟩ : ∃ ic, UpC A = ic := ⟨_, rfl⟩
      obtain ⟨bl, hbl⟩ : ∃ bl, UpA A = bl := ⟨_, rfl⟩
      rw [hic] at he6
      rw [hbl] at hr6
      subst he6
      have HIC := Lib.hid hic
      have HBL := Lib.hid hbl
      have HR6 := Lib.hid hr6
      have HB6 := Lib.hid (tr3 HB5.out hb6)
      have HB56 := Lib.hid hb6
      have HB46 := Lib.hid (tr3 HB45.out hb6)
      have H6 := Lib.hid (same_v ma na mn nn mc nc m w6 (HR4.out.below HB46.out) (HR5.out.below HB56.out))
      have hee : (ec != ec) = false := by simp
      have hgg : (gc != gc) = false := by simp
      clear h6b hr6 hb6 H5 hic hbl
      go_wp2_with fail
      refine H6.out.mono ?_
      rintro e w7 ⟨rfl, hb7⟩
      have HB7 := Lib.hid (tr3 HB6.out hb7)
      have HB67 := Lib.hid hb7
      have HB47 := Lib.hid (tr3 HB46.out hb7)
      clear H6 hb7
      have hec3 : ec = 0 ∨ ec = 3 := by
        rcases pk_cases l with ⟨h, _⟩ | ⟨h, _⟩
        · exact .inl (HEC.out.symm.trans h)
        · exact .inr (HEC.out.symm.trans h)
      rcases hec3 with rfl | rfl
      · have hbk := back_eq HEC.out
        rw [HA.out, HIC.out, HBL.out] at hbk
        obtain ⟨rfl, rfl⟩ := hbk
        have H7 := Lib.hid (same_v ba a bn n bc c bl w7 (HR6.out.below HB67.out) (HR0.out.below HB7.out))
        go_wp2_with fail
        refine H7.out.mono ?_
        rintro e w8 ⟨rfl, hb8⟩
        have HB8 := Lib.hid (tr3 HB7.out hb8)
        have HB48 := Lib.hid (tr3 HB47.out hb8)
        clear H7 hb8
        have H8 := Lib.hid (pack_v ma mn mc m w8 (HR4.out.below HB48.out) (by have := HML.out.1; omega))
        go_wp2_with fail
        refine H8.out.mono ?_
        rintro e w9 h9
        obtain ⟨he9, hb9⟩ := pk_uni h9
        have hfe := forth_eq L
        rw [HM.out] at hfe
        obtain ⟨T, hT⟩ : ∃ T, PkA m = T := ⟨_, rfl⟩
        rw [hT, hfe.1] at he9
        subst he9
        have HT := Lib.hid hT
        have HFE := Lib.hid hfe.2
        have HFC := Lib.hid hfe.1
        have HB9 := Lib.hid (tr3 HB8.out hb9)
        have HB49 := Lib.hid (tr3 HB48.out hb9)
        have htl : T.length ≤ 60 := by have := hfe.2; rw [hT, HSL.out] at this; omega
        have H9 := Lib.hid (unpack_v T w9 (by omega))
        clear h9 hb9 H8 hT hfe
        go_wp2_with fail
        refine H9.out.mono ?_
        rintro e w10 h10
        obtain ⟨⟨xa, xn, xc, he10, hr10⟩, hb10⟩ := up_uni h10
        have hbk := back_eq HFC.out
        rw [HT.out] at hbk
        rw [hbk.2] at he10
        rw [hbk.1] at hr10
        subst he10
        have HR10 := Lib.hid hr10
        have HB10 := Lib.hid (tr3 HB9.out hb10)
        have HB410 := Lib.hid (tr3 HB49.out hb10)
        have H10 := Lib.hid (own_v a n c bl w10 (HR0.out.below HB10.out) (by omega))
        clear h10 hr10 hb10 H9 hbk
        go_wp2_with fail
        refine H10.out.mono ?_
        rintro e w11 ⟨⟨pa, pc, rfl, hr11⟩, hb11⟩
        have HB11 := Lib.hid (tr3 HB10.out hb11)
        have HBx11 := Lib.hid hb11
        have H11 := Lib.hid (loops_v pa n pc bl w11 hr11 (by omega))
        clear hr11 hb11 H10
        go_wp2_with fail
        refine H11.out.mono ?_
        rintro e w12 ⟨v1, rfl, hv1, hb12⟩
        have HV1 := Lib.hid hv1
        have HB12 := Lib.hid (tr3 HB11.out hb12)
        have HBx12 := Lib.hid (tr3 HBx11.out hb12)
        have H12 := Lib.hid (rloops_v a n c bl w12 (HR0.out.below HB12.out) (by omega))
        clear hv1 hb12 H11
        go_wp2_with fail
        refine H12.out.mono ?_
        rintro e w13 ⟨v2, rfl, hv2, hb13⟩
        obtain rfl : v1 = v2 := RL.eq HV1.out hv2
        have HB13 := Lib.hid (tr3 HB12.out hb13)
        have HBx13 := Lib.hid (tr3 HBx12.out hb13)
        clear hv2 hb13 H12
        have hgc1 : gc = 0 ∨ gc = 1 := by
          rcases up_cases L with ⟨h, _⟩ | ⟨h, _⟩
          · exact .inl (HGC.out.symm.trans h)
          · exact .inr (HGC.out.symm.trans h)
        rcases hgc1 with rfl | rfl
        · have H13 := Lib.hid (same_v xa ma xn mn xc mc m w13 (HR10.out.below HBx13.out) (HR4.out.below (tr3 HB410.out HBx13.out)))
          have hts : (⟨T.toArray⟩ : ByteArray).size = T.length := str_size T
          have htL : T.length ≤ s := by have := HFE.out; rw [HT.out, HSL.out] at this; exact this
          have htLI : (T.length : Int) ≤ (s : Int) := by omega
          go_wp2_with fail
          refine H13.out.mono ?_
          rintro e w14 ⟨rfl, hb14⟩
          have HB14 := Lib.hid (tr3 HB13.out hb14)
          clear hb14 H13
          go_wp2_with fail
          go_ret
          exact ⟨rfl, HB14.out⟩
        · go_wp2_with fail
          go_ret
          exact ⟨rfl, HB13.out⟩
      · have HB8 := HB7
        have HB48 := HB47
        obtain ⟨w8, hw8⟩ : ∃ w8, w8 = w7 := ⟨_, rfl⟩
        rw [← hw8] at HB8 HB48 ⊢
        clear hw8
        have H8 := Lib.hid (pack_v ma mn mc m w8 (HR4.out.below HB48.out) (by have := HML.out.1; omega))
        go_wp2_with fail
        refine H8.out.mono ?_
        rintro e w9 h9
        obtain ⟨he9, hb9⟩ := pk_uni h9
        have hfe := forth_eq L
        rw [HM.out] at hfe
        obtain ⟨T, hT⟩ : ∃ T, PkA m = T := ⟨_, rfl⟩
        rw [hT, hfe.1] at he9
        subst he9
        have HT := Lib.hid hT
        have HFE := Lib.hid hfe.2
        have HFC := Lib.hid hfe.1
        have HB9 := Lib.hid (tr3 HB8.out hb9)
        have HB49 := Lib.hid (tr3 HB48.out hb9)
        have htl : T.length ≤ 60 := by have := hfe.2; rw [hT, HSL.out] at this; omega
        have H9 := Lib.hid (unpack_v T w9 (by omega))
        clear h9 hb9 H8 hT hfe
        go_wp2_with fail
        refine H9.out.mono ?_
        rintro e w10 h10
        obtain ⟨⟨xa, xn, xc, he10, hr10⟩, hb10⟩ := up_uni h10
        have hbk := back_eq HFC.out
        rw [HT.out] at hbk
        rw [hbk.2] at he10
        rw [hbk.1] at hr10
        subst he10
        have HR10 := Lib.hid hr10
        have HB10 := Lib.hid (tr3 HB9.out hb10)
        have HB410 := Lib.hid (tr3 HB49.out hb10)
        have H10 := Lib.hid (own_v a n c l w10 (HR0.out.below HB10.out) (by omega))
        clear h10 hr10 hb10 H9 hbk
        go_wp2_with fail
        refine H10.out.mono ?_
        rintro e w11 ⟨⟨pa, pc, rfl, hr11⟩, hb11⟩
        have HB11 := Lib.hid (tr3 HB10.out hb11)
        have HBx11 := Lib.hid hb11
        have H11 := Lib.hid (loops_v pa n pc l w11 hr11 (by omega))
        clear hr11 hb11 H10
        go_wp2_with fail
        refine H11.out.mono ?_
        rintro e w12 ⟨v1, rfl, hv1, hb12⟩
        have HV1 := Lib.hid hv1
        have HB12 := Lib.hid (tr3 HB11.out hb12)
        have HBx12 := Lib.hid (tr3 HBx11.out hb12)
        have H12 := Lib.hid (rloops_v a n c l w12 (HR0.out.below HB12.out) (by omega))
        clear hv1 hb12 H11
        go_wp2_with fail
        refine H12.out.mono ?_
        rintro e w13 ⟨v2, rfl, hv2, hb13⟩
        obtain rfl : v1 = v2 := RL.eq HV1.out hv2
        have HB13 := Lib.hid (tr3 HB12.out hb13)
        have HBx13 := Lib.hid (tr3 HBx12.out hb13)
        clear hv2 hb13 H12
        have hgc1 : gc = 0 ∨ gc = 1 := by
          rcases up_cases L with ⟨h, _⟩ | ⟨h, _⟩
          · exact .inl (HGC.out.symm.trans h)
          · exact .inr (HGC.out.symm.trans h)
        rcases hgc1 with rfl | rfl
        · have H13 := Lib.hid (same_v xa ma xn mn xc mc m w13 (HR10.out.below HBx13.out) (HR4.out.below (tr3 HB410.out HBx13.out)))
          have hts : (⟨T.toArray⟩ : ByteArray).size = T.length := str_size T
          have htL : T.length ≤ s := by have := HFE.out; rw [HT.out, HSL.out] at this; exact this
          have htLI : (T.length : Int) ≤ (s : Int) := by omega
          go_wp2_with fail
          refine H13.out.mono ?_
          rintro e w14 ⟨rfl, hb14⟩
          have HB14 := Lib.hid (tr3 HB13.out hb14)
          clear hb14 H13
          go_wp2_with fail
          go_ret
          exact ⟨rfl, HB14.out⟩
        · go_wp2_with fail
          go_ret
          exact ⟨rfl, HB13.out⟩
    · have h6I : (60 : Int) < (s : Int) := by omega
      have h7I : ¬ (700 : Int) < (n : Int) := by omega
      go_wp2_with fail
      go_ret
      exact ⟨rfl, HB0.out⟩
  · have h7I : (700 : Int) < (n : Int) := by omega
    go_wp2_with fail
    go_ret
    exact ⟨rfl, HB0.out⟩
theorem walk (a0 : Option Addr) (len0 cap0 : Nat) (z0 : Nat → Nat → Int) (a1 : ByteArray) (w : World) (w0 : IsGrid [.i64, .i64] w a0 len0 cap0 z0) (w1 : a1.size ≤ maxLen) :
    Calls Try.prog 4 #[.slice a0 len0 cap0, .string a1] w fun e w' => e = .returned (.bool true) ∧ Below w.heap.size w w' := by
  obtain ⟨L, rfl⟩ : ∃ L : List UInt8, a1 = ⟨L.toArray⟩ := ⟨a1.data.toList, by cases a1; rfl⟩
  rw [str_size] at w1
  exact core a0 len0 cap0 _ L w (rv_grid w0) w1
end Go.Proofs.Ytokkgfefiblmiaa.replayPacks
