/- A script's bytes are read as it was; any bytes are written as they were, but a last one alone: the law SchedBack answers true. No condition. -/
import Derived.Test.YtfigabjcmpakeacPickR
import Derived.Test.YtfigabjcmpakeacPickE
import Derived.Test.YtfigabjcmpakeacGrids
import Derived.Deep.RegionHeld3
import Derived.Deep.DrawnRows
namespace Go.Proofs.Ytfigabjcmpakeac.schedBack
open Go.ChangeShapes Go.WideShapes Go.ChangeAt Go.RowKit
attribute [local go_sem ↓] Go.wp_at_zero Go.wp_at_succ
set_option linter.unusedVariables false
set_option linter.unusedSimpArgs false
theorem byv_at : ∀ (xs : List PK) (i : Nat) (p : PK), xs[i]? = some p → (byv xs)[i * 2]? = some (bt p.1) ∧ (byv xs)[i * 2 + 1]? = some (bt p.2) := by
  intro xs
  induction xs with
  | nil => intro i p h; simp at h
  | cons q l ih =>
    intro i p h
    have hc : byv (q :: l) = bt q.1 :: bt q.2 :: byv l := rfl
    rw [hc]
    cases i with
    | zero => simp at h; subst h; simp
    | succ i =>
      have := ih i p (by simpa using h)
      rw [show (i + 1) * 2 = i * 2 + 1 + 1 by omega, show i * 2 + 1 + 1 + 1 = (i * 2 + 1) + 1 + 1 by omega]
      simpa using this
theorem bt_in (x : Int) (h1 : 0 ≤ x) (h2 : x ≤ 255) : (((bt x).toNat : Nat) : Int) = x := by
  have := bt_id (UInt8.ofNat x.toNat)
  have e : ((UInt8.ofNat x.toNat).toNat : Int) = x := by rw [UInt8.toNat_ofNat']; omega
  rw [e] at this
  rw [this, e]
def ysOf (t : List UInt8) (m : Nat) : List PK := (List.range m).map fun i => (((t.getD (i * 2) 0).toNat : Int), ((t.getD (i * 2 + 1) 0).toNat : Int))
theorem ysOf_at (t : List UInt8) (m i : Nat) (p : PK) (h : (ysOf t m)[i]? = some p) : p = (((t.getD (i * 2) 0).toNat : Int), ((t.getD (i * 2 + 1) 0).toNat : Int)) ∧ i < m := by
  have hi := (List.getElem?_eq_some_iff.1 h).1
  simp [ysOf] at hi
  simp [ysOf, hi] at h
  exact ⟨by simpa using h.symm, hi⟩
theorem ysOf_len (t : List UInt8) (m : Nat) : (ysOf t m).length = m := by simp [ysOf]
theorem byv_ys (t : List UInt8) (m : Nat) (h : t.length = 2 * m) : byv (ysOf t m) = t := by
  apply List.ext_getElem?
  intro j
  rcases Nat.lt_or_ge j (2 * m) with hj | hj
  · have hi : j / 2 < m := by omega
    obtain ⟨p, hp⟩ : ∃ p, (ysOf t m)[j / 2]? = some p := ⟨_, List.getElem?_eq_getElem (by rw [ysOf_len]; exact hi)⟩
    obtain ⟨he, _⟩ := ysOf_at t m _ p hp
    obtain ⟨h0, h1⟩ := byv_at _ _ _ hp
    rcases Nat.mod_two_eq_zero_or_one j with e | e
    · rw [show j / 2 * 2 = j by omega] at h0 he
      rw [h0, he, bt_id, List.getElem?_eq_getElem (by omega), List.getD_eq_getElem?_getD, List.getElem?_eq_getElem (by omega)]; rfl
    · rw [show j / 2 * 2 + 1 = j by omega] at h1 he
      rw [h1, he, bt_id, List.getElem?_eq_getElem (by omega), List.getD_eq_getElem?_getD, List.getElem?_eq_getElem (by omega)]; rfl
  · rw [List.getElem?_eq_none (by rw [byv_len, ysOf_len]; omega), List.getElem?_eq_none (by omega)]
theorem read_back {w : World} {B n : Nat} {xs : List PK} (hr : w.rowIs B 35 (n * 2) (rd ⟨(byv xs).toArray⟩ (2 * n))) (hn : xs.length = n) (hx : ∀ (i : Nat) (p : PK), xs[i]? = some p → 0 ≤ p.1 ∧ p.1 ≤ 255 ∧ 0 ≤ p.2 ∧ p.2 ≤ 255) : PV w (some ⟨B, 0, none⟩) n n xs :=
  PV.of_row hr hn fun i p hp => by
    have hi := (List.getElem?_eq_some_iff.1 hp).1
    obtain ⟨h0, h1⟩ := byv_at xs i p hp
    obtain ⟨x0, x1, x2, x3⟩ := hx i p hp
    have hl := byv_len xs
    unfold rd
    rw [if_pos (by omega), if_pos (by omega)]
    have e0 : (⟨(byv xs).toArray⟩ : ByteArray).data.getD (i * 2) 0 = bt p.1 := by
      show (byv xs).toArray.getD (i * 2) 0 = _
      rw [Array.getD_eq_getD_getElem?, List.getElem?_toArray, h0]; rfl
    have e1 : (⟨(byv xs).toArray⟩ : ByteArray).data.getD (i * 2 + 1) 0 = bt p.2 := by
      show (byv xs).toArray.getD (i * 2 + 1) 0 = _
      rw [Array.getD_eq_getD_getElem?, List.getElem?_toArray, h1]; rfl
    rw [e0, e1, bt_in _ x0 x1, bt_in _ x2 x3]
    exact ⟨rfl, rfl⟩
theorem read_any {w : World} {B m : Nat} {s : ByteArray} {t : List UInt8} (hr : w.rowIs B 35 (m * 2) (rd s s.size)) (ht : t.length = 2 * m) (hs : ∀ j, j < 2 * m → t.getD j 0 = if j < s.size then s.data.getD j 0 else 0) : PV w (some ⟨B, 0, none⟩) m m (ysOf t m) :=
  PV.of_row hr (ysOf_len t m) fun i p hp => by
    obtain ⟨rfl, hi⟩ := ysOf_at t m i p hp
    unfold rd
    dsimp only
    rw [hs _ (by omega), hs _ (by omega)]
    constructor <;> split <;> simp
def pk (z : Nat → Nat → Int) (k : Nat) : List PK := (List.range k).map fun i => (z i 0, z i 1)
theorem pk_succ (z : Nat → Nat → Int) (k : Nat) : pk z (k + 1) = pk z k ++ [(z k 0, z k 1)] := by simp [pk, List.range_succ]
theorem pk_len (z : Nat → Nat → Int) (k : Nat) : (pk z k).length = k := by simp [pk]
theorem pk_at (z : Nat → Nat → Int) (k i : Nat) (p : PK) (h : (pk z k)[i]? = some p) : p = (z i 0, z i 1) ∧ i < k := by
  have hi := (List.getElem?_eq_some_iff.1 h).1
  simp [pk] at hi
  simp [pk, hi] at h
  exact ⟨by simpa using h.symm, hi⟩
/-- What stays of the script while it grows. -/
structure Sc (w0 : World) (w : World) (v : Value) (xs : List PK) : Prop where
  o : OP w w0.heap.size v xs
  b : Below w0.heap.size w0 w
theorem Sc.go {w0 w w' : World} {v : Value} {xs : List PK} (h : Sc w0 w v xs) (hb : Below w.heap.size w w') : Sc w0 w' v xs := ⟨h.o.below hb, h.b.trans (hb.mono h.b.size)⟩
theorem Sc.app {w0 w w' : World} {v v' : Value} {xs : List PK} {p : PK} (h : Sc w0 w v xs) (h' : Hid (OP w' w0.heap.size v' (xs ++ [p]))) (hg : w.grownBy w' v.ownBlock) : Sc w0 w' v' (xs ++ [p]) := ⟨h'.out, h.b.grown hg h.b.size (fun k e => (h.o.lt k e).1)⟩
set_option maxRecDepth 20000 in
set_option maxHeartbeats 4000000 in
theorem core (o : Option Addr) (len cap : Nat) (z : Nat → Nat → Int) (s : ByteArray) (w : World) (hl : len ≤ 500) (hs : s.size ≤ 1000) (hz : Hid (∀ i, i < len → ∃ b off, o = some ⟨b, off, none⟩ ∧ b < w.heap.size ∧ w.cell? ⟨b, off + i * 2, none⟩ = some (.int .u8 (z i 0)) ∧ w.cell? ⟨b, off + i * 2 + 1, none⟩ = some (.int .u8 (z i 1)) ∧ 0 ≤ z i 0 ∧ z i 0 ≤ 255 ∧ 0 ≤ z i 1 ∧ z i 1 ≤ 255)) :
    Calls Try.prog 5 #[.slice o len cap, .string s] w fun e w' => e = .returned (.bool true) ∧ Below w.heap.size w w' := by
  have hd1 : ¬ (500 : Int) < (len : Int) := by omega
  have hd2 : decide (1000 < s.size) = false := by simp; omega
  have hd3 : ¬ (1000 : Int) < (s.size : Int) := by omega
  go_enter Try.func5, Try.ntmps5
  go_wp2_with fail
  refine (works36 _).mono ?_
  rintro e w1 ⟨rfl, hb1⟩
  have hS : Hid (Sc w w1 (.slice none 0 0) (pk z 0)) := Lib.hid ⟨World.ownsRow_nil _ _ _ _, hb1⟩
  clear hb1
  go_wp2_with fail
  go_loopw [5, 6] (fun v i wr => ∃ k : Nat, k ≤ len ∧ i = .int .i64 (k : Int) ∧ Hid (Sc w wr v (pk z k))) (fun _ i _ => len - (intOf i).toNat)
  case atStart => exact ⟨0, by omega, rfl, hS⟩
  case round =>
    clear hS
    obtain ⟨k, hk, rfl, hS⟩ := hrel
    by_cases hlt : k < len
    · obtain ⟨b, off, rfl, hbl, z0, z1, r0, r1, r2, r3⟩ := hz.out k hlt
      have HPK := Lib.hid (pk_succ z k)
      have hbl2 : b < wr.heap.size := Nat.lt_of_lt_of_le hbl hS.out.b.size
      generalize z k 0 = x at *
      generalize z k 1 = y at *
      have hx : IntKind.i64.wrap x = x := by rw [IntKind.wrap_i64]; omega
      have hy : IntKind.i64.wrap y = y := by rw [IntKind.wrap_i64]; omega
      obtain ⟨ov, cv, rfl, _⟩ := hS.out.o.form
      go_wp2_with fail
      have HK : Hid (∀ w', Below w.heap.size w w' → Below w.heap.size w w' ∧ w'.cell? ⟨b, off + k * 2, none⟩ = some (.int .u8 x) ∧ w'.cell? ⟨b, off + k * 2 + 1, none⟩ = some (.int .u8 y)) := Lib.hid fun w' hb => ⟨hb, (hb.cell (p := ⟨b, off + k * 2, none⟩) hbl).trans z0, (hb.cell (p := ⟨b, off + k * 2 + 1, none⟩) hbl).trans z1⟩
      clear z0 z1
      go_region_held3 (fun w' => Below w.heap.size w w' ∧ w'.cell? ⟨b, off + k * 2, none⟩ = some (.int .u8 x) ∧ w'.cell? ⟨b, off + k * 2 + 1, none⟩ = some (.int .u8 y)) (first | (with_reducible assumption) | exact HK.out _ hS.out.b | exact HK.out _ hS2.b | exact HK.out _ (hS.out.go (by go_grown)).b)
        ((refine step_appP rfl _ _ (by rfl) w.heap.size (.slice ov (pk z k).length cv) (pk z k) (x, y) ?hs wr.heap.size 1 ?hx ?hown ?h0 ?h1 ?hsm ?hB ?_; (case hs => rfl); (case hx => rfl); (case hown => exact Lib.hid (hS.out.go (by go_grown)).o); (case h0 => go_simp); (case h1 => go_simp); (case hsm => rw [pk_len]; omega); (case hB => exact (hS.out.go (by go_grown)).b.size); intro v' w2 ho2 hg2 hk2; have hS2 := (hS.out.go (by go_grown)).app ho2 hg2))
      have HS2 : Hid (Sc w w2 v' (pk z (k + 1))) := Lib.hid (by rw [HPK.out]; exact hS2)
      clear hS2 ho2 hg2 hk2
      go_wp2_with fail
      go_roundw
      case rel => exact ⟨k + 1, by omega, by go_num, HS2⟩
      case measure => simp [intOf]; omega
    · obtain rfl : k = len := by omega
      obtain ⟨ov, cv, rfl, hpv, hnil⟩ := hS.out.o.form
      have HPV := Lib.hid hpv
      have HN := Lib.hid hnil
      clear hpv hnil
      have HB := Lib.hid hS.out.b
      have HSZ := Lib.hid hS.out.b.size
      have HR : Hid (∀ (i : Nat) (p : PK), (pk z k)[i]? = some p → 0 ≤ p.1 ∧ p.1 ≤ 255 ∧ 0 ≤ p.2 ∧ p.2 ≤ 255) := Lib.hid fun i p hp => by
        obtain ⟨rfl, hi⟩ := pk_at z k i p hp
        obtain ⟨_, _, _, _, _, _, h⟩ := hz.out i hi
        exact h
      have hxl : (pk z k).length = k := pk_len z k
      generalize pk z k = xs at *
      have HXL := Lib.hid hxl
      have HBS2 : Hid ((⟨(byv xs).toArray⟩ : ByteArray).size = 2 * xs.length) := Lib.hid (by show (byv xs).toArray.size = _; rw [List.size_toArray, byv_len])
      have hxb : xs.length ≤ 500 := by omega
      have HBS : Hid (((⟨(byv xs).toArray⟩ : ByteArray).size + 1) / 2 = xs.length ∧ (⟨(byv xs).toArray⟩ : ByteArray).size ≤ 100000) := Lib.hid (by rw [HBS2.out]; omega)
      clear hxl hS hz
      obtain ⟨m, hm2⟩ : ∃ m, (s.size + 1) / 2 = m := ⟨_, rfl⟩
      have hsl : s.data.toList.length = s.size := rfl
      have hgd : ∀ j, j < s.size → s.data.toList.getD j 0 = s.data.getD j 0 := fun j hj => by
        have hj2 : j < s.data.size := hj
        rw [List.getD_eq_getElem?_getD, Array.getD_eq_getD_getElem?, ← Array.getElem?_toList]
      by_cases hodd : s.size % 2 = 1
      · have hm : (s.size : Int).tmod 2 = 1 := by rw [Int.tmod_eq_emod_of_nonneg (by omega)]; omega
        have hov : ¬ 9223372036854775807 < s.size + 1 := by omega
        have ht1 : (s.data.toList ++ [0]).length = 2 * m := by rw [List.length_append, hsl]; simp; omega
        have HT2 : Hid (∀ j, j < 2 * m → (s.data.toList ++ [0]).getD j 0 = if j < s.size then s.data.getD j 0 else 0) := Lib.hid fun j hj => by
          by_cases h : j < s.size
          · rw [if_pos h, ← hgd j h, List.getD_eq_getElem?_getD, List.getElem?_append_left (by rw [hsl]; exact h), ← List.getD_eq_getElem?_getD]
          · rw [if_neg h, List.getD_eq_getElem?_getD, List.getElem?_append_right (by rw [hsl]; omega), hsl, show j - s.size = 0 by omega]; rfl
        have HT3 : Hid ((⟨(byv (ysOf (s.data.toList ++ [0]) m)).toArray⟩ : ByteArray) = s ++ ⟨#[0]⟩) := Lib.hid (by rw [byv_ys _ _ ht1]; apply ByteArray.ext; apply Array.ext'; simp)
        have HT1 := Lib.hid ht1
        clear ht1 hsl hgd
        go_wp2_with (at_builtin; refine wpList_copyP rfl _ _ rfl wr.heap.size wr.heap.size rfl (heap_alloc_new wr _) (Nat.le_refl _) xs ov cv rfl (HPV.out.below (by go_grown)) HN.out (by omega) ?_)
        intro v' w2 ho2 hb2
        obtain ⟨ov2, cv2, rfl, hpv2, _⟩ := ho2.out.form
        have hb2' : Below wr.heap.size wr w2 := ((Below.refl _ _).alloc (Nat.le_refl _) _).trans hb2
        clear hb2
        have HP2 := Lib.hid hpv2
        clear hpv2 ho2
        go_wp2_with fail
        refine (bytes_of _ _ _ xs _ HP2.out (by omega)).mono ?_
        rintro e w3 ⟨rfl, hb3⟩
        have hb3' := hb2'.trans (hb3.mono hb2'.size)
        clear hb2' hb3 HP2
        go_wp2_with fail
        refine (read_of ⟨(byv xs).toArray⟩ xs.length _ HBS.out.1 HBS.out.2).mono ?_
        rintro e w4 ⟨rfl, hr4, hb4⟩
        have hb4' := hb3'.trans (hb4.mono hb3'.size)
        have hP4 : PV w4 (some ⟨w3.heap.size, 0, none⟩) xs.length xs.length xs := by
          refine read_back ?_ rfl (fun i p hp => HR.out i p hp)
          rw [HBS2.out] at hr4
          exact hr4
        have HP4 := Lib.hid hP4
        clear hb3' hb4 hr4 hP4
        go_wp2_with fail
        refine (same_any _ _ xs.length _ _ xs xs _ HP4.out (HPV.out.below hb4') (by omega)).mono ?_
        rintro e w5 ⟨rfl, hb5⟩
        have hb5' := hb4'.trans (hb5.mono hb4'.size)
        have hdt : decide (xs = xs) = true := by simp
        rw [hdt]
        clear hb4' hb5 HP4 hdt
        go_wp2_with fail
        refine (read_of s m _ hm2 (by omega)).mono ?_
        rintro e w6 ⟨rfl, hr6, hb6⟩
        have hb6' := hb5'.trans (hb6.mono hb5'.size)
        have HP6 := Lib.hid (read_any (t := s.data.toList ++ [0]) hr6 HT1.out HT2.out)
        clear hb5' hr6 hb6
        go_wp2_with fail
        refine (bytes_of _ m m (ysOf (s.data.toList ++ [0]) m) _ HP6.out (by omega)).mono ?_
        rintro e w7 ⟨rfl, hb7⟩
        have hb7' := hb6'.trans (hb7.mono hb6'.size)
        rw [HT3.out]
        clear hb6' hb7
        go_wp2_with fail
        go_ret
        exact ⟨by simp, HB.out.trans (hb7'.mono HSZ.out)⟩
      · have hm : (s.size : Int).tmod 2 = 0 := by rw [Int.tmod_eq_emod_of_nonneg (by omega)]; omega
        have ht1 : (s.data.toList).length = 2 * m := by rw [hsl]; omega
        have HT2 : Hid (∀ j, j < 2 * m → (s.data.toList).getD j 0 = if j < s.size then s.data.getD j 0 else 0) := Lib.hid fun j hj => by
          rw [if_pos (by omega), ← hgd j (by omega)]
        have HT3 : Hid ((⟨(byv (ysOf (s.data.toList) m)).toArray⟩ : ByteArray) = s) := Lib.hid (by rw [byv_ys _ _ ht1])
        have HT1 := Lib.hid ht1
        clear ht1 hsl hgd
        go_wp2_with (at_builtin; refine wpList_copyP rfl _ _ rfl wr.heap.size wr.heap.size rfl (heap_alloc_new wr _) (Nat.le_refl _) xs ov cv rfl (HPV.out.below (by go_grown)) HN.out (by omega) ?_)
        intro v' w2 ho2 hb2
        obtain ⟨ov2, cv2, rfl, hpv2, _⟩ := ho2.out.form
        have hb2' : Below wr.heap.size wr w2 := ((Below.refl _ _).alloc (Nat.le_refl _) _).trans hb2
        clear hb2
        have HP2 := Lib.hid hpv2
        clear hpv2 ho2
        go_wp2_with fail
        refine (bytes_of _ _ _ xs _ HP2.out (by omega)).mono ?_
        rintro e w3 ⟨rfl, hb3⟩
        have hb3' := hb2'.trans (hb3.mono hb2'.size)
        clear hb2' hb3 HP2
        go_wp2_with fail
        refine (read_of ⟨(byv xs).toArray⟩ xs.length _ HBS.out.1 HBS.out.2).mono ?_
        rintro e w4 ⟨rfl, hr4, hb4⟩
        have hb4' := hb3'.trans (hb4.mono hb3'.size)
        have hP4 : PV w4 (some ⟨w3.heap.size, 0, none⟩) xs.length xs.length xs := by
          refine read_back ?_ rfl (fun i p hp => HR.out i p hp)
          rw [HBS2.out] at hr4
          exact hr4
        have HP4 := Lib.hid hP4
        clear hb3' hb4 hr4 hP4
        go_wp2_with fail
        refine (same_any _ _ xs.length _ _ xs xs _ HP4.out (HPV.out.below hb4') (by omega)).mono ?_
        rintro e w5 ⟨rfl, hb5⟩
        have hb5' := hb4'.trans (hb5.mono hb4'.size)
        have hdt : decide (xs = xs) = true := by simp
        rw [hdt]
        clear hb4' hb5 HP4 hdt
        go_wp2_with fail
        refine (read_of s m _ hm2 (by omega)).mono ?_
        rintro e w6 ⟨rfl, hr6, hb6⟩
        have hb6' := hb5'.trans (hb6.mono hb5'.size)
        have HP6 := Lib.hid (read_any (t := s.data.toList) hr6 HT1.out HT2.out)
        clear hb5' hr6 hb6
        go_wp2_with fail
        refine (bytes_of _ m m (ysOf (s.data.toList) m) _ HP6.out (by omega)).mono ?_
        rintro e w7 ⟨rfl, hb7⟩
        have hb7' := hb6'.trans (hb7.mono hb6'.size)
        rw [HT3.out]
        clear hb6' hb7
        go_wp2_with fail
        go_ret
        exact ⟨by simp, HB.out.trans (hb7'.mono HSZ.out)⟩
theorem big (o : Option Addr) (len cap : Nat) (s : ByteArray) (w : World) (h : 500 < len ∨ 1000 < s.size) :
    Calls Try.prog 5 #[.slice o len cap, .string s] w fun e w' => e = .returned (.bool true) ∧ Below w.heap.size w w' := by
  by_cases h1 : 500 < len
  · have hd1 : (500 : Int) < (len : Int) := by omega
    go_enter Try.func5, Try.ntmps5
    go_wp2_with fail
    refine (works36 _).mono ?_
    rintro e w1 ⟨rfl, hb1⟩
    go_wp2_with fail
    go_ret
    exact ⟨rfl, hb1⟩
  · have hd1 : ¬ (500 : Int) < (len : Int) := by omega
    have hd2 : decide (1000 < s.size) = true := by simp; omega
    have hd3 : (1000 : Int) < (s.size : Int) := by omega
    go_enter Try.func5, Try.ntmps5
    go_wp2_with fail
    refine (works36 _).mono ?_
    rintro e w1 ⟨rfl, hb1⟩
    go_wp2_with fail
    go_ret
    exact ⟨rfl, hb1⟩
theorem walk (a0 : Option Addr) (len0 cap0 : Nat) (z0 : Nat → Nat → Int) (a1 : ByteArray) (w : World) (w0 : IsGrid [.u8, .u8] w a0 len0 cap0 z0) (w1 : a1.size ≤ maxLen) :
    Calls Try.prog 5 #[.slice a0 len0 cap0, .string a1] w fun e w' => e = .returned (.bool true) ∧ Below w.heap.size w w' := by
  by_cases h : 500 < len0 ∨ 1000 < a1.size
  · exact big a0 len0 cap0 a1 w h
  · refine core a0 len0 cap0 z0 a1 w (by omega) (by omega) (Lib.hid fun i hi => ?_)
    rcases w0.split (by decide) with h0 | ⟨b, off, rfl, hlt, hle, hm, hc⟩
    · omega
    · have h0 := hc i (by omega) 0 .u8 rfl
      have h1 := hc i (by omega) 1 .u8 rfl
      have b0 := bounds_u8 h0.2
      have b1 := bounds_u8 h1.2
      exact ⟨b, off, rfl, hlt, h0.1, h1.1, b0.1, b0.2, b1.1, b1.2⟩
end Go.Proofs.Ytfigabjcmpakeac.schedBack
