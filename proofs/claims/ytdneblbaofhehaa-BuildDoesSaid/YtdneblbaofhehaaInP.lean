/- What is put is got, and what is got is what was put (layer 3). -/
import Derived.Test.YtdneblbaofhehaaInE
namespace Go.Proofs.Ytdneblbaofhehaa.ins
open Go.ChangeShapes Go.WideShapes Go.ChangeAt Go.RowKit
open Go.Proofs.Ytdneblbaofhehaa.bin Go.Proofs.Ytdneblbaofhehaa.bits
set_option linter.unusedVariables false
set_option linter.unusedSimpArgs false
theorem u8_of (n : Int) (h0 : 0 ≤ n) (h1 : n < 256) : ((UInt8.ofNat n.toNat).toNat : Int) = n := by
  rw [UInt8.toNat_ofNat']; omega
theorem byte0 (n : Int) : ((byteAt n 0).toNat : Int) = n % 256 := by rw [byteAt_val]; simp
theorem byte1 (n : Int) : ((byteAt n 1).toNat : Int) = n / 256 % 256 := by rw [byteAt_val]; simp
theorem putB1 (n : Int) : putB n 1 = [byteAt n 0] := rfl
theorem putB2 (n : Int) : putB n 2 = [byteAt n 1, byteAt n 0] := rfl
theorem ofB2 (a b : UInt8) : (ofB [a, b] : Int) = (a.toNat : Int) * 256 + b.toNat := by simp [ofB]
/-- an operand in its bounds is read as it was put -/
theorem val_put (c : UInt8) (hc : Lt c) (n : Int) (h : okL c n = true) : valB c (putB n (wd c)) = n := by
  rcases hc with rfl | rfl | rfl | rfl
  · have h' : 0 ≤ n ∧ n < 8 := of_decide_eq_true h
    show ((ofB (putB n 1) : Nat) : Int) = n
    rw [putB1, ofB_one, byte0]; omega
  · have h' : -32768 ≤ n ∧ n ≤ 32767 := of_decide_eq_true h
    show valB 110 (putB n 2) = n
    rw [valB_n, putB2, ofB2, byte0, byte1]
    unfold sgV
    rw [show pw 2 = 65536 from rfl]
    split <;> omega
  · have h' : 0 ≤ n ∧ n < 200 := of_decide_eq_true h
    show ((ofB (putB n 2) : Nat) : Int) = n
    rw [putB2, ofB2, byte0, byte1]; omega
  · have h' : 0 ≤ n ∧ n < 16 := of_decide_eq_true h
    show ((ofB (putB n 1) : Nat) : Int) = n
    rw [putB1, ofB_one, byte0]; omega
theorem read_enc (f : List UInt8) : ∀ (fs : List Int) (z : List UInt8), (∀ x ∈ f, Lt x) → chkL f fs = 0 → f.length ≤ fs.length → readL f (encL f fs ++ z) = (0, fs.take f.length, z) := by
  induction f with
  | nil => intro fs z _ _ _; simp [readL, encL]
  | cons c f ih =>
    intro fs z hL hc hl
    cases fs with
    | nil => simp at hl
    | cons n fs =>
      have hk : okL c n = true := by
        unfold chkL at hc
        by_cases h : okL c n = true
        · exact h
        · rw [if_neg h] at hc; omega
      have hc2 : chkL f fs = 0 := by unfold chkL at hc; rw [if_pos hk] at hc; exact hc
      have hlen := putB_len n (wd c)
      have ht : (encL (c :: f) (n :: fs) ++ z).take (wd c) = putB n (wd c) := by
        show (putB n (wd c) ++ encL f fs ++ z).take (wd c) = _
        rw [List.append_assoc]
        exact List.take_left' hlen
      have hd : (encL (c :: f) (n :: fs) ++ z).drop (wd c) = encL f fs ++ z := by
        show (putB n (wd c) ++ encL f fs ++ z).drop (wd c) = _
        rw [List.append_assoc]
        exact List.drop_left' hlen
      unfold readL
      rw [ht, hd, val_put c (hL c (by simp)) n hk, if_pos hk, ih fs z (fun x hx => hL x (by simp [hx])) hc2 (by simpa using hl)]
      simp
theorem chkL_rest (f : List UInt8) : ∀ (fs : List Int), chkL f fs = 0 → f.length ≤ fs.length → ∀ x ∈ fs.drop f.length, x = 0 := by
  induction f with
  | nil =>
    intro fs h _ x hx
    unfold chkL at h
    by_cases ha : fs.all (· == 0) = true
    · have := List.all_eq_true.1 ha x (by simpa using hx)
      simpa using this
    · rw [if_neg ha] at h; omega
  | cons c f ih =>
    intro fs h hl
    cases fs with
    | nil => simp at hl
    | cons n fs =>
      unfold chkL at h
      by_cases hk : okL c n = true
      · rw [if_pos hk] at h
        simpa using ih fs h (by simpa using hl)
      · rw [if_neg hk] at h; omega
theorem enc_len (f : List UInt8) : ∀ fs : List Int, f.length ≤ fs.length → (encL f fs).length = sumW f := by
  induction f with
  | nil => intro fs _; rfl
  | cons c f ih =>
    intro fs hl
    cases fs with
    | nil => simp at hl
    | cons n fs =>
      show (putB n (wd c) ++ encL f fs).length = wd c + sumW f
      rw [List.length_append, putB_len, ih fs (by simpa using hl)]
theorem encI_len (op A B C : Int) : (encI op A B C).length = 4 := by
  unfold encI pad
  have h1 := enc_len (frmI op) (three A B C) (by have := (frmI_ok op).1; simpa [three] using this)
  have h2 := sumW_frmI op
  rw [List.length_append, List.length_replicate, List.length_cons, h1]
  omega
/-- what is put is got -/
theorem get_put (op A B C : Int) (h : chkI op A B C = 0) : GV (encI op A B C) = .tuple #[.agg #[.int .i64 op, .int .i64 A, .int .i64 B, .int .i64 C], .int .i64 0] := by
  obtain ⟨h0, h25⟩ := chkI_op h
  have hf := frmI_ok op
  have hch : chkL (frmI op) (three A B C) = 0 := by
    unfold chkI at h
    rwa [if_neg (by omega)] at h
  have hlen := encI_len op A B C
  have hle : (frmI op).length ≤ (three A B C).length := by simpa [three] using hf.1
  have hb : ((byteAt op 0).toNat : Int) = op := by rw [byte0]; omega
  have hbn : frm (byteAt op 0).toNat = frmI op := by rw [← frm_nat, hb]
  obtain ⟨z, hz, hz0⟩ : ∃ z, encI op A B C = byteAt op 0 :: (encL (frmI op) (three A B C) ++ z) ∧ ∀ x ∈ z, x = 0 := by
    unfold encI pad
    exact ⟨_, rfl, fun x hx => (List.mem_replicate.1 hx).2⟩
  have hr : (encL (frmI op) (three A B C) ++ z).length = 3 := by rw [hz] at hlen; simpa using hlen
  have hrd := read_enc (frmI op) (three A B C) z hf.2 hch hle
  rw [hz, gv_good (byteAt op 0) _ ((three A B C).take (frmI op).length) hr (by omega) (by rw [hbn, hrd]) (by rw [hbn, hrd]; exact List.all_eq_true.2 fun x hx => by simp [hz0 x hx]) (by rw [hbn, hrd]), hb]
  have hrest := chkL_rest (frmI op) (three A B C) hch hle
  have hg : ∀ i, i < 3 → ((three A B C).take (frmI op).length).getD i 0 = (three A B C).getD i 0 := by
    intro i hi
    by_cases hil : i < (frmI op).length
    · simp [List.getD_eq_getElem?_getD, List.getElem?_take_of_lt hil]
    · rw [List.getD_eq_getElem?_getD, List.getElem?_eq_none (by rw [List.length_take]; omega)]
      have h3 : i < (three A B C).length := by simpa [three] using hi
      rw [List.getD_eq_getElem?_getD, List.getElem?_eq_getElem h3]
      have hm : (three A B C)[i] ∈ (three A B C).drop (frmI op).length := by
        rw [List.mem_iff_getElem]
        refine ⟨i - (frmI op).length, by rw [List.length_drop]; omega, ?_⟩
        rw [List.getElem_drop]
        congr 1
        omega
      exact (hrest _ hm).symm
  rw [hg 0 (by omega), hg 1 (by omega), hg 2 (by omega)]
  rfl
theorem u8_ext {a b : UInt8} (h : (a.toNat : Int) = b.toNat) : a = b := UInt8.toNat_inj.1 (by omega)
theorem put_val (c : UInt8) (hc : Lt c) (r : List UInt8) (h : wd c ≤ r.length) : putB (valB c (r.take (wd c))) (wd c) = r.take (wd c) := by
  have k2 : ∀ a b : UInt8, ∀ n : Int, n % 65536 = (a.toNat : Int) * 256 + b.toNat → putB n 2 = [a, b] := by
    intro a b n hn
    have ha := a.toNat_lt
    have hb := b.toNat_lt
    rw [putB2, u8_ext (a := byteAt n 1) (b := a) (by rw [byte1]; omega), u8_ext (a := byteAt n 0) (b := b) (by rw [byte0]; omega)]
  have k1 : ∀ a : UInt8, ∀ n : Int, n = (a.toNat : Int) → putB n 1 = [a] := by
    intro a n hn
    have ha := a.toNat_lt
    rw [putB1, u8_ext (a := byteAt n 0) (b := a) (by rw [byte0]; omega)]
  rcases hc with rfl | rfl | rfl | rfl
  · obtain ⟨a, r', rfl⟩ : ∃ a r', r = a :: r' := by
      cases r with
      | nil => simp [wd] at h
      | cons a r' => exact ⟨a, r', rfl⟩
    exact k1 a _ (ofB_one a)
  · obtain ⟨a, b, r', rfl⟩ : ∃ a b r', r = a :: b :: r' := by
      match r, h with
      | a :: b :: r', _ => exact ⟨a, b, r', rfl⟩
    have ha := a.toNat_lt
    have hb := b.toNat_lt
    refine k2 a b _ ?_
    show valB 110 [a, b] % 65536 = _
    rw [valB_n, ofB2]
    unfold sgV
    rw [show pw 2 = 65536 from rfl]
    split <;> omega
  · obtain ⟨a, b, r', rfl⟩ : ∃ a b r', r = a :: b :: r' := by
      match r, h with
      | a :: b :: r', _ => exact ⟨a, b, r', rfl⟩
    have ha := a.toNat_lt
    have hb := b.toNat_lt
    refine k2 a b _ ?_
    show (((ofB [a, b] : Nat) : Int)) % 65536 = _
    rw [ofB2]
    omega
  · obtain ⟨a, r', rfl⟩ : ∃ a r', r = a :: r' := by
      cases r with
      | nil => simp [wd] at h
      | cons a r' => exact ⟨a, r', rfl⟩
    exact k1 a _ (ofB_one a)
theorem enc_read (f : List UInt8) : ∀ (r : List UInt8), (∀ x ∈ f, Lt x) → (readL f r).1 = 0 → sumW f ≤ r.length → ∀ y : List Int, (∀ x ∈ y, x = 0) →
    encL f ((readL f r).2.1 ++ y) ++ (readL f r).2.2 = r ∧ chkL f ((readL f r).2.1 ++ y) = 0 ∧ (readL f r).2.1.length = f.length := by
  induction f with
  | nil =>
    intro r _ _ _ y hy
    have : y.all (· == 0) = true := List.all_eq_true.2 fun x hx => by simp [hy x hx]
    simp [readL, encL, chkL, this]
  | cons c f ih =>
    intro r hL h hs y hy
    unfold readL at h ⊢
    by_cases hk : okL c (valB c (r.take (wd c))) = true
    · rw [if_pos hk] at h ⊢
      unfold sumW at hs
      obtain ⟨h1, h2, h3⟩ := ih (r.drop (wd c)) (fun x hx => hL x (by simp [hx])) h (by rw [List.length_drop]; omega) y hy
      refine ⟨?_, ?_, by simp [h3]⟩
      · show putB (valB c (r.take (wd c))) (wd c) ++ encL f ((readL f (r.drop (wd c))).2.1 ++ y) ++ (readL f (r.drop (wd c))).2.2 = r
        rw [List.append_assoc, h1, put_val c (hL c (by simp)) r (by omega)]
        exact List.take_append_drop _ _
      · show (if okL c (valB c (r.take (wd c))) then chkL f ((readL f (r.drop (wd c))).2.1 ++ y) else 3) = 0
        rw [if_pos hk, h2]
    · rw [if_neg hk] at h
      exact absurd h (by simp)
/-- what is got, put, is these bytes -/
theorem put_get (b : UInt8) (rest : List UInt8) (hr : rest.length = 3) (h25 : ¬ 25 < b.toNat) (hT : (readL (frm b.toNat) rest).1 = 0) (hz : (readL (frm b.toNat) rest).2.2.all (· == 0) = true) :
    ∃ A B C : Int, (readL (frm b.toNat) rest).2.1.getD 0 0 = A ∧ (readL (frm b.toNat) rest).2.1.getD 1 0 = B ∧ (readL (frm b.toNat) rest).2.1.getD 2 0 = C ∧ encI (b.toNat : Int) A B C = b :: rest ∧ chkI (b.toNat : Int) A B C = 0 := by
  refine ⟨_, _, _, rfl, rfl, rfl, ?_⟩
  have hf := frm_ok b.toNat
  obtain ⟨vs, hvs⟩ : ∃ vs, (readL (frm b.toNat) rest).2.1 = vs := ⟨_, rfl⟩
  obtain ⟨rm, hrm⟩ : ∃ rm, (readL (frm b.toNat) rest).2.2 = rm := ⟨_, rfl⟩
  have key := enc_read (frm b.toNat) rest hf.2 hT (by have := sumW_frm b.toNat; omega)
  rw [hvs, hrm] at key
  rw [hvs]
  rw [hrm] at hz
  have hvl := (key [] (by simp)).2.2
  have hpad : three (vs.getD 0 0) (vs.getD 1 0) (vs.getD 2 0) = vs ++ List.replicate (3 - vs.length) 0 := by
    match vs, hvl.symm ▸ hf.1 with
    | [], _ => rfl
    | [a], _ => rfl
    | [a, b], _ => rfl
    | [a, b, c], _ => rfl
  obtain ⟨h1, h2, _⟩ := key (List.replicate (3 - vs.length) 0) (fun x hx => (List.mem_replicate.1 hx).2)
  rw [← hpad] at h1 h2
  constructor
  · unfold encI
    rw [frm_nat]
    have hb : byteAt (b.toNat : Int) 0 = b := u8_ext (by rw [byte0]; have := b.toNat_lt; omega)
    rw [hb]
    unfold pad
    have hrl : rm.length + (encL (frm b.toNat) (three (vs.getD 0 0) (vs.getD 1 0) (vs.getD 2 0))).length = 3 := by
      have := congrArg List.length h1
      rw [List.length_append, hr] at this
      omega
    have hrz : rm = List.replicate (4 - (b :: encL (frm b.toNat) (three (vs.getD 0 0) (vs.getD 1 0) (vs.getD 2 0))).length) 0 := by
      rw [List.length_cons]
      refine List.eq_replicate_iff.2 ⟨by omega, fun x hx => ?_⟩
      have := List.all_eq_true.1 hz x hx
      simpa using this
    rw [← hrz]
    show b :: (encL (frm b.toNat) (three (vs.getD 0 0) (vs.getD 1 0) (vs.getD 2 0)) ++ rm) = b :: rest
    rw [h1]
  · unfold chkI
    rw [if_neg (by have := b.toNat_lt; omega), frm_nat]
    exact h2
end Go.Proofs.Ytdneblbaofhehaa.ins
