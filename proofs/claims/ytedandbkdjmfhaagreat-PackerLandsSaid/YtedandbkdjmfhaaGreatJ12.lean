/-
  SEVERAL TEXTS IN ONE FILE: SegMath, WireNums, WireBack, WireTake.
-/
import Derived.Test.YtedandbkdjmfhaaGreatJ11
import Derived.Test.YtedandbkdjmfhaaGreatJ01
import Derived.LoopTactic
import Derived.Deep.LoopGhost
import Derived.RangeFuncNested
import Derived.RangeFuncBound
import Derived.RangeFuncCalls
import Derived.RangeFuncLeaves
import Derived.RangeFuncBox
import Derived.Shelf.Abstract
import Derived.OwnWalkIn
import Derived.TacticsInMore
import Derived.LoopNIn
import Derived.LoopIn
set_option linter.unusedSimpArgs false
set_option linter.unusedVariables false
/-
  THE PLAIN MATHEMATICS OF seg: frames, headers, records as bytes; what is found of bytes; what is cut off, or turned, is not found. Nothing of the program stands here.
-/
namespace Go.Proofs.YtedandbkdjmfhaaGreat
namespace Seg
open Wire

/-! ### The four bytes of a sum -/
def enc4 (n : Nat) : List B8 := [BitVec.ofNat 8 n, BitVec.ofNat 8 (n / 256), BitVec.ofNat 8 (n / 65536), BitVec.ofNat 8 (n / 16777216)]
def dec4 (a b c d : B8) : Nat := a.toNat + 256 * b.toNat + 65536 * c.toNat + 16777216 * d.toNat
theorem enc4_dec4 (a b c d : B8) : enc4 (dec4 a b c d) = [a, b, c, d] := by
  have ha := a.isLt; have hb := b.isLt; have hc := c.isLt; have hd := d.isLt
  unfold enc4
  have e0 : BitVec.ofNat 8 (dec4 a b c d) = a := by apply BitVec.eq_of_toNat_eq; rw [BitVec.toNat_ofNat]; unfold dec4; omega
  have e1 : BitVec.ofNat 8 (dec4 a b c d / 256) = b := by apply BitVec.eq_of_toNat_eq; rw [BitVec.toNat_ofNat]; unfold dec4; omega
  have e2 : BitVec.ofNat 8 (dec4 a b c d / 65536) = c := by apply BitVec.eq_of_toNat_eq; rw [BitVec.toNat_ofNat]; unfold dec4; omega
  have e3 : BitVec.ofNat 8 (dec4 a b c d / 16777216) = d := by apply BitVec.eq_of_toNat_eq; rw [BitVec.toNat_ofNat]; unfold dec4; omega
  rw [e0, e1, e2, e3]
theorem dec4_inj {a b c d a' b' c' d' : B8} (h : dec4 a b c d = dec4 a' b' c' d') : [a, b, c, d] = [a', b', c', d'] := by rw [← enc4_dec4, h, enc4_dec4]
/-- The number of the four bytes at the beginning, if they are there. -/
def four : List B8 → Option Nat
  | a :: b :: c :: d :: _ => some (dec4 a b c d)
  | _ => none
theorem four_enc4 (n : Nat) (hn : n < 4294967296) (r : List B8) : four (enc4 n ++ r) = some n := by
  simp only [enc4, List.cons_append, List.nil_append, four, dec4, BitVec.toNat_ofNat]
  congr 1; omega
theorem four_short {l : List B8} (h : l.length < 4) : four l = none := by
  match l, h with
  | [], _ => rfl
  | [_], _ => rfl
  | [_, _], _ => rfl
  | [_, _, _], _ => rfl
theorem four_one {l : List B8} {n : Nat} (h : four l = some n) : enc4 n = l.take 4 ∧ 4 ≤ l.length ∧ n < 4294967296 := by
  match l, h with
  | a :: b :: c :: d :: r, h =>
    simp only [four, Option.some.injEq] at h
    subst h
    have ha := a.isLt; have hb := b.isLt; have hc := c.isLt; have hd := d.isLt
    refine ⟨by rw [enc4_dec4]; rfl, by simp, ?_⟩
    unfold dec4; omega
theorem enc4_len (n : Nat) : (enc4 n).length = 4 := rfl
theorem enc4_inj {a b : Nat} (ha : a < 4294967296) (hb : b < 4294967296) (h : enc4 a = enc4 b) : a = b := by
  have h1 := four_enc4 a ha []
  have h2 := four_enc4 b hb []
  rw [h, h2] at h1
  exact (Option.some.inj h1).symm

/-! ### A frame -/
def sumOf (x : List B8) : Nat := (Crc.goes 0#32 x).toNat
theorem sumOf_lt (x : List B8) : sumOf x < 4294967296 := (Crc.goes 0#32 x).isLt
def frame (x : List B8) : List B8 := encV x ++ enc4 (sumOf x)
theorem frame_len (x : List B8) : (frame x).length = (enc x.length).length + x.length + 4 := by
  simp [frame, encV, enc4_len]; omega
/-- The bytes of the frame at the beginning, and how long it is. -/
def tk (b : List B8) : Option (List B8 × Nat) :=
  let r := vec1 b
  if r.2.2 = 0 then (if four (b.drop r.2.1) = some (sumOf r.1) then some (r.1, r.2.1 + 4) else none) else none

theorem tk_frame (x rest : List B8) (h : x.length ≤ 65536) : tk (frame x ++ rest) = some (x, (frame x).length) := by
  unfold tk frame
  rw [List.append_assoc, vec1_enc x _ h]
  simp only [if_pos, List.drop_left]
  rw [four_enc4 _ (sumOf_lt x)]
  simp [enc4_len]
theorem tk_cut (x : List B8) (j : Nat) (h : x.length ≤ 65536) (hj : j < (frame x).length) : tk ((frame x).take j) = none := by
  unfold tk frame at *
  by_cases hc : j < (encV x).length
  · rw [List.take_append_of_le_length (by omega), vec1_cut x j h hc]
    simp
  · have e : (encV x ++ enc4 (sumOf x)).take j = encV x ++ (enc4 (sumOf x)).take (j - (encV x).length) := by
      rw [List.take_append, List.take_of_length_le (by omega)]
    rw [e, vec1_enc x _ h]
    rw [List.length_append, enc4_len] at hj
    simp only [if_pos, List.drop_left]
    rw [four_short (by rw [List.length_take, enc4_len]; omega)]
    simp
theorem tk_one {b x : List B8} {k : Nat} (h : tk b = some (x, k)) : frame x = b.take k ∧ k ≤ b.length ∧ x.length ≤ 65536 ∧ 5 ≤ k := by
  unfold tk at h
  rcases hr : vec1 b with ⟨v, j, e⟩
  rw [hr] at h
  by_cases he : e = 0
  · subst he
    simp only [if_pos] at h
    split at h
    · rename_i h4
      simp only [Option.some.injEq, Prod.mk.injEq] at h
      obtain ⟨rfl, rfl⟩ := h
      obtain ⟨v1, v2, v3, v4⟩ := vec1_one hr
      obtain ⟨f1, f2, -⟩ := four_one h4
      rw [List.length_drop] at f2
      refine ⟨?_, by omega, v3, by omega⟩
      unfold frame
      rw [v1, f1, List.take_add]
    · cases h
  · simp [he] at h
theorem frame_inj {x y : List B8} (hx : x.length ≤ 65536) (hy : y.length ≤ 65536) (h : frame x = frame y) : x = y := by
  have h1 := tk_frame x [] hx
  have h2 := tk_frame y [] hy
  rw [h, h2] at h1
  simp only [Option.some.injEq, Prod.mk.injEq] at h1
  exact h1.1.symm

/-! ### Headers -/
structure Hdr where
  host : Int
  epoch : Int
  seq : Int
def hnums (h : Hdr) : List Int := [0, h.host, h.epoch, h.seq]
def nn (l : List Int) : Prop := ∀ z ∈ l, 0 ≤ z
instance (l : List Int) : Decidable (nn l) := by unfold nn; infer_instance
def fits (l : List Int) : Prop := ∀ z ∈ l, z < 9223372036854775808
def headX (h : Hdr) : List B8 := encs ((hnums h).map Int.toNat)
/-- A header's bytes, and what is wrong. -/
def headB (h : Hdr) : List B8 × Nat := if nn (hnums h) then (frame (headX h), 0) else ([], 1)
theorem toNat_map {l : List Int} (h : nn l) : (l.map Int.toNat).map (fun n : Nat => (n : Int)) = l := by
  rw [List.map_map]
  refine (List.map_congr_left fun z hz => ?_).trans (List.map_id l)
  have := h z hz
  simp only [Function.comp, id]
  omega
theorem fits_nat {l : List Int} (hf : fits l) (h : nn l) : ∀ n ∈ l.map Int.toNat, n < 9223372036854775808 := by
  intro n hn
  obtain ⟨z, hz, rfl⟩ := List.mem_map.1 hn
  have := hf z hz
  have := h z hz
  omega
theorem headX_len (h : Hdr) (hf : fits (hnums h)) (hn : nn (hnums h)) : (headX h).length ≤ 40 := by
  have := encs_len (l := (hnums h).map Int.toNat) (fun n hn' => by have := fits_nat hf hn n hn'; omega)
  simpa [hnums, headX] using this
def takeHead (x : List B8) : Option Hdr :=
  let r := ints 4 x
  if r.2.2 = 0 ∧ r.2.1 = x.length ∧ r.1.getD 0 0 = 0 then some ⟨(r.1.getD 1 0 : Nat), (r.1.getD 2 0 : Nat), (r.1.getD 3 0 : Nat)⟩ else none
theorem takeHead_headX (h : Hdr) (hf : fits (hnums h)) (hn : nn (hnums h)) : takeHead (headX h) = some h := by
  have hi := ints_encs [] ((hnums h).map Int.toNat) (fits_nat hf hn)
  rw [List.append_nil] at hi
  unfold takeHead
  have e : ((hnums h).map Int.toNat).length = 4 := rfl
  rw [e] at hi
  have h1 := hn h.host (by simp [hnums])
  have h2 := hn h.epoch (by simp [hnums])
  have h3 := hn h.seq (by simp [hnums])
  unfold headX
  rw [hi]
  obtain ⟨a, b, c⟩ := h
  simp [hnums] at *
  omega
theorem takeHead_one {x : List B8} {h : Hdr} (ht : takeHead x = some h) : headX h = x ∧ nn (hnums h) ∧ fits (hnums h) := by
  unfold takeHead at ht
  rcases hr : ints 4 x with ⟨l, k, e⟩
  rw [hr] at ht
  simp only at ht
  split at ht
  · rename_i hc
    obtain ⟨rfl, rfl, hz⟩ := hc
    obtain ⟨a1, a2, a3, a4⟩ := ints_one _ _ _ _ hr
    match l, a1 with
    | [p, q, r, s], _ =>
      simp only [List.getD_cons_zero, List.getD_cons_succ, Option.some.injEq] at ht hz
      subst ht hz
      rw [List.take_length] at a3
      refine ⟨?_, ?_, ?_⟩
      · rw [← a3]; simp [headX, hnums]
      · intro z hz
        simp [hnums] at hz
        omega
      · intro z hz
        have b1 := a4 q (by simp)
        have b2 := a4 r (by simp)
        have b3 := a4 s (by simp)
        simp [hnums] at hz
        omega
  · cases ht
theorem headX_inj {a b : Hdr} (ha : nn (hnums a)) (fa : fits (hnums a)) (hb : nn (hnums b)) (fb : fits (hnums b)) (h : headX a = headX b) : a = b := by
  have h1 := takeHead_headX a fa ha
  rw [h, takeHead_headX b fb hb] at h1
  exact (Option.some.inj h1).symm

/-! ### Records -/
structure Rc where
  kind : Int
  lba : Int
  n : Int
  ver : Int
  zone : Int
  off : Int
  data : List B8
def nums (r : Rc) : List Int := [r.kind, r.lba, r.n, r.ver, r.zone, r.off]
def blocksB (r : Rc) (most : Int) : Bool := decide (1 ≤ r.n) && (decide (r.n ≤ most) && decide (r.lba ≤ 1099511627776 - r.n))
def nowhereB (r : Rc) : Bool := (r.zone == 0) && (r.off == 0)
def mayB (r : Rc) : Bool :=
  if nn (nums r) then
    if r.kind = 1 then blocksB r 256 && nowhereB r
    else if r.kind = 2 then blocksB r 1099511627776 && nowhereB r
    else if r.kind = 3 then blocksB r 1099511627776
    else if r.kind = 4 then (r.lba == 0) && ((r.n == 0) && nowhereB r)
    else if r.kind = 5 then blocksB r 256
    else false
  else false
def bytesOf (r : Rc) : Int := if r.kind = 1 then r.n * 16 else if r.kind = 5 then r.n * 16 else 0
def check (r : Rc) : Nat :=
  if mayB r = true then (if r.kind = 4 then (if 32768 < r.data.length then 2 else 0) else if (r.data.length : Int) = bytesOf r then 0 else 1) else 1
theorem check_le (r : Rc) : check r = 0 ∨ check r = 1 ∨ check r = 2 := by
  unfold check; repeat' split
  all_goals simp
theorem check_ok {r : Rc} (h : check r = 0) : nn (nums r) ∧ r.data.length ≤ 32768 := by
  unfold check at h
  split at h
  · rename_i hm
    unfold mayB at hm
    split at hm
    · rename_i hn
      refine ⟨hn, ?_⟩
      split at h
      · split at h
        · cases h
        · omega
      · split at h
        · rename_i h4 hl
          have hb : (r.data.length : Int) ≤ 4096 := by
            rw [hl]
            unfold bytesOf
            repeat' split at hm
            all_goals (try simp only [blocksB, Bool.and_eq_true, decide_eq_true_eq] at hm)
            all_goals (repeat' split)
            all_goals (first | omega | contradiction | (cases hm))
          omega
        · cases h
    · cases hm
  · cases h
def recX (r : Rc) : List B8 := encs ((nums r).map Int.toNat) ++ encV r.data
def recB (r : Rc) : List B8 × Nat := if check r = 0 then (frame (recX r), 0) else ([], check r)
theorem recX_len {r : Rc} (hf : fits (nums r)) (h : check r = 0) : (recX r).length ≤ 40000 := by
  obtain ⟨hn, hd⟩ := check_ok h
  have h1 := encs_len (l := (nums r).map Int.toNat) (fun n hn' => by have := fits_nat hf hn n hn'; omega)
  have h2 := enc_len_le (n := r.data.length) (by omega)
  simp [recX, encV]
  simp [nums] at h1
  simp [nums]
  omega
def takeRec (x : List B8) : Option Rc :=
  let r := ints 6 x
  if r.2.2 = 0 then
    let v := vec1 (x.drop r.2.1)
    if v.2.2 = 0 ∧ r.2.1 + v.2.1 = x.length then
      let c : Rc := ⟨(r.1.getD 0 0 : Nat), (r.1.getD 1 0 : Nat), (r.1.getD 2 0 : Nat), (r.1.getD 3 0 : Nat), (r.1.getD 4 0 : Nat), (r.1.getD 5 0 : Nat), v.1⟩
      if check c = 0 then some c else none
    else none
  else none
theorem takeRec_recX (r : Rc) (hf : fits (nums r)) (h : check r = 0) : takeRec (recX r) = some r := by
  obtain ⟨hn, hd⟩ := check_ok h
  have hi := ints_encs (encV r.data) ((nums r).map Int.toNat) (fits_nat hf hn)
  have e : ((nums r).map Int.toNat).length = 6 := rfl
  rw [e] at hi
  have hv := vec1_enc r.data [] (by omega)
  rw [List.append_nil] at hv
  unfold takeRec recX
  rw [hi]
  simp only [if_pos, List.drop_left, hv, List.length_append, and_self]
  have h1 := hn r.kind (by simp [nums])
  have h2 := hn r.lba (by simp [nums])
  have h3 := hn r.n (by simp [nums])
  have h4 := hn r.ver (by simp [nums])
  have h5 := hn r.zone (by simp [nums])
  have h6 := hn r.off (by simp [nums])
  have ec : (⟨((((nums r).map Int.toNat).getD 0 0 : Nat) : Int), (((nums r).map Int.toNat).getD 1 0 : Nat), (((nums r).map Int.toNat).getD 2 0 : Nat), (((nums r).map Int.toNat).getD 3 0 : Nat), (((nums r).map Int.toNat).getD 4 0 : Nat), (((nums r).map Int.toNat).getD 5 0 : Nat), r.data⟩ : Rc) = r := by
    obtain ⟨a, b, c, d, e, f, g⟩ := r
    simp [nums] at *
    omega
  rw [ec, if_pos h]
theorem takeRec_one {x : List B8} {r : Rc} (ht : takeRec x = some r) : recX r = x ∧ check r = 0 ∧ fits (nums r) := by
  unfold takeRec at ht
  rcases hr : ints 6 x with ⟨l, k, e⟩
  rw [hr] at ht
  simp only at ht
  split at ht
  · rename_i he
    subst he
    rcases hv : vec1 (x.drop k) with ⟨v, j, e2⟩
    rw [hv] at ht
    simp only at ht
    split at ht
    · rename_i hc
      obtain ⟨rfl, hx⟩ := hc
      split at ht
      · rename_i hc
        simp only [Option.some.injEq] at ht
        obtain ⟨a1, a2, a3, a4⟩ := ints_one _ _ _ _ hr
        obtain ⟨v1, v2, v3, v4⟩ := vec1_one hv
        match l, a1 with
        | [p0, p1, p2, p3, p4, p5], _ =>
          simp only [List.getD_cons_zero, List.getD_cons_succ] at ht hc
          subst ht
          refine ⟨?_, hc, ?_⟩
          · have : recX ⟨p0, p1, p2, p3, p4, p5, v⟩ = encs [p0, p1, p2, p3, p4, p5] ++ encV v := by simp [recX, nums]
            rw [this, a3, v1, ← List.take_add, hx, List.take_length]
          · intro z hz
            have b0 := a4 p0 (by simp)
            have b1 := a4 p1 (by simp)
            have b2 := a4 p2 (by simp)
            have b3 := a4 p3 (by simp)
            have b4 := a4 p4 (by simp)
            have b5 := a4 p5 (by simp)
            simp [nums] at hz
            omega
      · cases ht
    · cases ht
  · cases ht
theorem recX_inj {a b : Rc} (ha : check a = 0) (fa : fits (nums a)) (hb : check b = 0) (fb : fits (nums b)) (h : recX a = recX b) : a = b := by
  have h1 := takeRec_recX a fa ha
  rw [h, takeRec_recX b fb hb] at h1
  exact (Option.some.inj h1).symm

/-! ### What is found -/
/-- The record's frame at the beginning. -/
def one (b : List B8) : Option (Rc × Nat) :=
  match tk b with
  | some (x, k) => (match takeRec x with
    | some r => some (r, k)
    | none => none)
  | none => none
inductive Scans : List B8 → List (Rc × Nat) → Prop
  | stop {b} (h : one b = none) : Scans b []
  | step {b r k l} (h : one b = some (r, k)) (hs : Scans (b.drop k) l) : Scans b ((r, k) :: l)
theorem Scans.det {b : List B8} {l m : List (Rc × Nat)} (h : Scans b l) (h' : Scans b m) : l = m := by
  induction h generalizing m with
  | stop h =>
    cases h' with
    | stop _ => rfl
    | step h2 _ => rw [h] at h2; cases h2
  | step h _ ih =>
    cases h' with
    | stop h2 => rw [h] at h2; cases h2
    | step h2 hs2 =>
      rw [h] at h2
      simp only [Option.some.injEq, Prod.mk.injEq] at h2
      obtain ⟨rfl, rfl⟩ := h2
      rw [ih hs2]
theorem one_of {b x : List B8} {k : Nat} {r : Rc} (h : tk b = some (x, k)) (hr : takeRec x = some r) : one b = some (r, k) := by
  unfold one; rw [h]; simp only [hr]
theorem one_none {b : List B8} (h : tk b = none) : one b = none := by
  unfold one; rw [h]
theorem one_bad {b x : List B8} {k : Nat} (h : tk b = some (x, k)) (hr : takeRec x = none) : one b = none := by
  unfold one; rw [h]; simp only [hr]
theorem one_one {b : List B8} {r : Rc} {k : Nat} (h : one b = some (r, k)) : frame (recX r) = b.take k ∧ k ≤ b.length ∧ 5 ≤ k ∧ check r = 0 ∧ fits (nums r) ∧ (frame (recX r)).length = k := by
  unfold one at h
  split at h
  · rename_i x j ht
    split at h
    · rename_i r' hr
      simp only [Option.some.injEq, Prod.mk.injEq] at h
      obtain ⟨rfl, rfl⟩ := h
      obtain ⟨t1, t2, t3, t4⟩ := tk_one ht
      obtain ⟨r1, r2, r3⟩ := takeRec_one hr
      rw [r1]
      exact ⟨t1, t2, t4, r2, r3, by rw [t1, List.length_take]; omega⟩
    · cases h
  · cases h
def good (r : Rc) : Prop := check r = 0 ∧ fits (nums r)
theorem one_frame (r : Rc) (h : good r) (rest : List B8) : one (frame (recX r) ++ rest) = some (r, (frame (recX r)).length) :=
  one_of (tk_frame _ _ (by have := recX_len h.2 h.1; omega)) (takeRec_recX r h.2 h.1)

/-- All records' frames. -/
def frames (l : List Rc) : List B8 := l.flatMap fun r => frame (recX r)
theorem frames_cons (r : Rc) (l : List Rc) : frames (r :: l) = frame (recX r) ++ frames l := rfl
theorem frames_append (l m : List Rc) : frames (l ++ m) = frames l ++ frames m := by simp [frames]
/-- The records, each with its frame's length. -/
def sized (l : List Rc) : List (Rc × Nat) := l.map fun r => (r, (frame (recX r)).length)
theorem scans_frames (rest : List B8) (hr : one rest = none) : ∀ l : List Rc, (∀ r ∈ l, good r) → Scans (frames l ++ rest) (sized l) := by
  intro l
  induction l with
  | nil => intro _; exact .stop hr
  | cons r l ih =>
    intro h
    rw [frames_cons, List.append_assoc]
    refine .step (one_frame r (h r (by simp)) _) ?_
    rw [List.drop_left]
    exact ih fun r hr => h r (by simp [hr])
/-- What was found is what stands there. -/
theorem scans_one {b : List B8} {l : List (Rc × Nat)} (h : Scans b l) : l = sized (l.map (·.1)) ∧ (∀ r ∈ l.map (·.1), good r) ∧ ∃ rest, b = frames (l.map (·.1)) ++ rest ∧ one rest = none := by
  induction h with
  | stop h => exact ⟨rfl, by simp, _, rfl, h⟩
  | step h hs ih =>
    rename_i b r k l
    obtain ⟨o1, o2, o3, o4, o5, o6⟩ := one_one h
    obtain ⟨i1, i2, rest, i3, i4⟩ := ih
    refine ⟨?_, ?_, rest, ?_, i4⟩
    · simp only [List.map_cons, sized] at i1 ⊢
      rw [o6, ← i1]
    · intro x hx
      rcases List.mem_cons.1 hx with rfl | hx
      · exact ⟨o4, o5⟩
      · exact i2 x hx
    · simp only [List.map_cons, frames_cons, List.append_assoc, ← i3, o1]
      exact (List.take_append_drop k b).symm

theorem int1_nil : int1 [] = (0, 0, 20) := by decide
theorem takeRec_nil : takeRec [] = none := by
  unfold takeRec ints
  rw [int1_nil]; rfl
theorem sumOf_nil : sumOf [] = 0 := by unfold sumOf; rw [Crc.goes_nil]; rfl
theorem int1_zero (l : List B8) : int1 (0#8 :: l) = (0, 1, 0) := by
  have h := int1_enc 0 l (by omega)
  rw [enc_lt (by omega)] at h
  exact h
theorem vec1_zero (l : List B8) : vec1 (0#8 :: l) = ([], 1, 0) := by
  unfold vec1
  rw [int1_zero]
  simp
theorem vec1_nil : vec1 [] = ([], 0, 20) := by
  unfold vec1
  rw [int1_nil]; rfl
/-- Zeros are no record's frame. -/
theorem one_zeros (n : Nat) : one (List.replicate n 0#8) = none := by
  rcases n with _ | n
  · exact one_none (by unfold tk; rw [List.replicate_zero, vec1_nil]; rfl)
  · rcases ht : tk (List.replicate (n + 1) 0#8) with _ | ⟨x, k⟩
    · exact one_none ht
    · have : x = [] := by
        unfold tk at ht
        rw [List.replicate_succ, vec1_zero] at ht
        simp only [if_pos] at ht
        split at ht
        · simp only [Option.some.injEq, Prod.mk.injEq] at ht
          exact ht.1.symm
        · cases ht
      subst this
      exact one_bad ht takeRec_nil

/-! ### What was cut off -/
theorem one_cut (r : Rc) (h : good r) (j : Nat) (hj : j < (frame (recX r)).length) : one ((frame (recX r)).take j) = none :=
  one_none (tk_cut _ j (by have := recX_len h.2 h.1; omega) hj)
/-- How many frames are whole in so many bytes. -/
def whole : List Rc → Nat → Nat
  | [], _ => 0
  | r :: l, c => if (frame (recX r)).length ≤ c then whole l (c - (frame (recX r)).length) + 1 else 0
theorem scans_cut : ∀ (l : List Rc) (c : Nat), (∀ r ∈ l, good r) → Scans ((frames l).take c) (sized (l.take (whole l c))) := by
  intro l
  induction l with
  | nil =>
    intro c _
    simp only [frames, List.flatMap_nil, List.take_nil, whole]
    exact .stop (by simpa using one_zeros 0)
  | cons r l ih =>
    intro c h
    have hg := h r (by simp)
    rw [frames_cons, whole]
    split
    · rename_i hle
      rw [List.take_append, List.take_of_length_le hle]
      refine .step (one_frame r hg _) ?_
      rw [List.drop_left]
      exact ih _ fun r hr => h r (by simp [hr])
    · rename_i hlt
      rw [List.take_append_of_le_length (by omega)]
      exact .stop (one_cut r hg c (by omega))
theorem whole_le (l : List Rc) : ∀ c, whole l c ≤ l.length := by
  induction l with
  | nil => intro c; simp [whole]
  | cons r l ih => intro c; rw [whole]; split <;> simp [ih]
/-- .. all those that end by c, and no other. -/
theorem whole_iff : ∀ (l : List Rc) (c k : Nat), k < l.length → (k < whole l c ↔ (frames (l.take (k + 1))).length ≤ c) := by
  intro l
  induction l with
  | nil => intro c k h; simp at h
  | cons r l ih =>
    intro c k h
    rw [whole]
    simp only [List.take_succ_cons, frames_cons, List.length_append]
    split
    · rename_i hle
      rcases k with _ | k
      · simp [frames]; exact hle
      · have := ih (c - (frame (recX r)).length) k (by simpa using h)
        constructor
        · intro h1
          have := this.1 (by omega)
          omega
        · intro h1
          have := this.2 (by omega)
          omega
    · rename_i hgt
      constructor
      · intro h1; omega
      · intro h1; omega
theorem frames_mono (l : List Rc) {j k : Nat} (h : j ≤ k) : (frames (l.take j)).length ≤ (frames (l.take k)).length := by
  obtain ⟨d, rfl⟩ := Nat.le.dest h
  rw [List.take_add, frames_append, List.length_append]
  omega
theorem frames_whole (l : List Rc) (c : Nat) : (frames (l.take (whole l c))).length ≤ c := by
  rcases Nat.eq_zero_or_pos (whole l c) with h | h
  · rw [h]; simp [frames]
  · have h1 := whole_le l c
    have := (whole_iff l c (whole l c - 1) (by omega)).1 (by omega)
    rwa [Nat.sub_add_cancel h] at this

/-! ### What was turned -/
theorem run_inj : ∀ (l : List B8) (a b : BitVec 32), Crc.run a l = Crc.run b l → a = b := by
  intro l a b h
  have h1 := Crc.run_split a (a ^^^ b) l
  have e : a ^^^ (a ^^^ b) = b := by rw [← BitVec.xor_assoc, BitVec.xor_self, BitVec.zero_xor]
  rw [e, ← h] at h1
  have h2 : Crc.shn (8 * l.length) (a ^^^ b) = 0#32 := by
    have := congrArg (fun x => Crc.run a l ^^^ x) h1
    simp only [← BitVec.xor_assoc, BitVec.xor_self, BitVec.zero_xor] at this
    exact this.symm
  have h3 := Crc.shn_inj0 _ _ h2
  exact BitVec.xor_eq_zero_iff.1 h3
theorem step_inj (c : BitVec 32) (x y : B8) (h : Crc.step c x = Crc.step c y) : x = y := by
  unfold Crc.step at h
  have h1 : Crc.shn 8 ((c ^^^ x.setWidth 32) ^^^ (c ^^^ y.setWidth 32)) = 0#32 := by rw [Crc.shn_xor, h, BitVec.xor_self]
  have h2 := BitVec.xor_eq_zero_iff.1 (Crc.shn_inj0 _ _ h1)
  have h3 : x.setWidth 32 = y.setWidth 32 := by
    have := congrArg (fun z => c ^^^ z) h2
    simpa [← BitVec.xor_assoc] using this
  have h4 := congrArg BitVec.toNat h3
  rw [BitVec.toNat_setWidth, BitVec.toNat_setWidth] at h4
  have := x.isLt
  have := y.isLt
  apply BitVec.eq_of_toNat_eq
  omega
theorem sum_turned (p s : List B8) (x y : B8) (h : x ≠ y) : sumOf (p ++ x :: s) ≠ sumOf (p ++ y :: s) := by
  intro e
  unfold sumOf at e
  have e1 := BitVec.eq_of_toNat_eq e
  unfold Crc.goes at e1
  have e2 : Crc.run (~~~ 0#32) (p ++ x :: s) = Crc.run (~~~ 0#32) (p ++ y :: s) := by
    have := congrArg (fun z => ~~~ z) e1
    simpa using this
  rw [Crc.run_append, Crc.run_append] at e2
  exact h (step_inj _ _ _ (run_inj s _ _ e2))
/-- A frame in whose bytes, or sum, one byte is another one, is none. -/
theorem tk_turned (x rest : List B8) (hx : x.length ≤ 65536) (at_ : Nat) (y : B8) (h1 : (enc x.length).length ≤ at_) (h2 : at_ < (frame x).length) (hy : (frame x)[at_]? ≠ some y) :
    tk ((frame x).set at_ y ++ rest) = none := by
  obtain ⟨j, rfl⟩ := Nat.le.dest h1
  rw [frame_len] at h2
  have e0 : frame x = enc x.length ++ (x ++ enc4 (sumOf x)) := by simp [frame, encV]
  have hset : (frame x).set ((enc x.length).length + j) y = enc x.length ++ (x ++ enc4 (sumOf x)).set j y := by
    rw [e0, List.set_append_right _ _ (by omega)]
    congr 2; omega
  have hget : (frame x)[(enc x.length).length + j]? = (x ++ enc4 (sumOf x))[j]? := by
    rw [e0, List.getElem?_append_right (by omega)]
    congr 1; omega
  rw [hget] at hy
  rw [hset]
  by_cases hj : j < x.length
  · -- one of the bytes
    have hset2 : (x ++ enc4 (sumOf x)).set j y = x.set j y ++ enc4 (sumOf x) := by rw [List.set_append_left _ _ hj]
    rw [hset2]
    have hv : vec1 (enc x.length ++ (x.set j y ++ enc4 (sumOf x)) ++ rest) = (x.set j y, (encV x).length, 0) := by
      have := vec1_enc (x.set j y) (enc4 (sumOf x) ++ rest) (by simpa using hx)
      simpa [encV] using this
    unfold tk
    rw [hv]
    simp only [if_pos]
    have hd : (enc x.length ++ (x.set j y ++ enc4 (sumOf x)) ++ rest).drop (encV x).length = enc4 (sumOf x) ++ rest := by
      have : enc x.length ++ (x.set j y ++ enc4 (sumOf x)) ++ rest = (enc x.length ++ x.set j y) ++ (enc4 (sumOf x) ++ rest) := by simp
      rw [this, List.drop_left' (by simp [encV])]
    rw [hd, four_enc4 _ (sumOf_lt x)]
    rw [if_neg]
    intro h
    have h := Option.some.inj h
    rw [List.getElem?_append_left hj, List.getElem?_eq_getElem hj] at hy
    have hne : x[j] ≠ y := fun e => hy (by rw [e])
    have hspl : x = x.take j ++ x[j] :: x.drop (j + 1) := by
      rw [← List.drop_eq_getElem_cons hj, List.take_append_drop]
    have hspl2 : x.set j y = x.take j ++ y :: x.drop (j + 1) := by
      rw [List.set_eq_take_append_cons_drop, if_pos hj]
    rw [hspl2] at h
    have h3 := sum_turned (x.take j) (x.drop (j + 1)) x[j] y hne
    rw [← hspl] at h3
    exact h3 h
  · -- one of the sum's
    have hj2 : j - x.length < 4 := by omega
    have hset2 : (x ++ enc4 (sumOf x)).set j y = x ++ (enc4 (sumOf x)).set (j - x.length) y := by rw [List.set_append_right _ _ (by omega)]
    rw [hset2]
    have hv : vec1 (enc x.length ++ (x ++ (enc4 (sumOf x)).set (j - x.length) y) ++ rest) = (x, (encV x).length, 0) := by
      have := vec1_enc x ((enc4 (sumOf x)).set (j - x.length) y ++ rest) hx
      simpa [encV] using this
    unfold tk
    rw [hv]
    simp only [if_pos]
    have hd : (enc x.length ++ (x ++ (enc4 (sumOf x)).set (j - x.length) y) ++ rest).drop (encV x).length = (enc4 (sumOf x)).set (j - x.length) y ++ rest := by
      have : enc x.length ++ (x ++ (enc4 (sumOf x)).set (j - x.length) y) ++ rest = (enc x.length ++ x) ++ ((enc4 (sumOf x)).set (j - x.length) y ++ rest) := by simp
      rw [this, List.drop_left' (by simp [encV])]
    rw [hd, if_neg]
    intro h
    obtain ⟨f1, -, -⟩ := four_one h
    have hl : ((enc4 (sumOf x)).set (j - x.length) y).length = 4 := by simp [enc4_len]
    rw [List.take_append_of_le_length (by omega), List.take_of_length_le (by omega)] at f1
    rw [List.getElem?_append_right (by omega)] at hy
    rw [f1] at hy
    rw [List.getElem?_set] at hy
    rw [if_pos rfl] at hy
    rw [if_pos (by rw [enc4_len]; omega)] at hy
    exact hy rfl

/-! ### A segment -/
/-- A segment's bytes, or the first error. -/
def recsB : List Rc → List B8 × Nat
  | [] => ([], 0)
  | r :: l => if check r = 0 then (let t := recsB l; if t.2 = 0 then (frame (recX r) ++ t.1, 0) else ([], t.2)) else ([], check r)
def segB (h : Hdr) (l : List Rc) : List B8 × Nat := if nn (hnums h) then (let t := recsB l; if t.2 = 0 then (frame (headX h) ++ t.1, 0) else ([], t.2)) else ([], 1)
theorem recsB_ok : ∀ l : List Rc, (∀ r ∈ l, check r = 0) → recsB l = (frames l, 0) := by
  intro l
  induction l with
  | nil => intro _; rfl
  | cons r l ih =>
    intro h
    rw [recsB, if_pos (h r (by simp)), ih fun r hr => h r (by simp [hr])]
    rfl
theorem recsB_bad : ∀ (l : List Rc) (b : List B8) (e : Nat), recsB l = (b, e) → (e = 0 ∧ ∀ r ∈ l, check r = 0) ∨ (e ≠ 0 ∧ b = [] ∧ ∃ i r, l[i]? = some r ∧ check r = e ∧ ∀ r ∈ l.take i, check r = 0) := by
  intro l
  induction l with
  | nil => intro b e h; simp [recsB] at h; exact .inl ⟨h.2.symm, by simp⟩
  | cons r l ih =>
    intro b e h
    rw [recsB] at h
    split at h
    · rename_i hc
      rcases ht : recsB l with ⟨b', e'⟩
      rw [ht] at h
      rcases ih b' e' ht with ⟨rfl, h2⟩ | ⟨h1, rfl, i, r', h3, h4, h5⟩
      · simp at h
        refine .inl ⟨h.2.symm, ?_⟩
        intro x hx
        rcases List.mem_cons.1 hx with rfl | hx
        · exact hc
        · exact h2 x hx
      · simp only [if_neg h1, Prod.mk.injEq] at h
        obtain ⟨rfl, rfl⟩ := h
        refine .inr ⟨h1, rfl, i + 1, r', by simpa using h3, h4, ?_⟩
        intro x hx
        rw [List.take_succ_cons] at hx
        rcases List.mem_cons.1 hx with rfl | hx
        · exact hc
        · exact h5 x hx
    · rename_i hc
      simp only [Prod.mk.injEq] at h
      obtain ⟨rfl, rfl⟩ := h
      exact .inr ⟨hc, rfl, 0, r, rfl, rfl, by simp⟩
end Seg
end Go.Proofs.YtedandbkdjmfhaaGreat
/-
  wire: HOW NUMBERS ARE WRITTEN (put, Put, Nums, Vec) AND MEASURED (length).
-/
namespace Go.Proofs.YtedandbkdjmfhaaGreat
open Go.RowKit Mem
namespace Wire

/-- The byte at the beginning of a longer number. -/
theorem or128 (n : Nat) : bits .or .u8 ((n : Int) % 256) 128 = u (BitVec.ofNat 8 (n % 128 + 128)) := by
  have h := u8_or_nat (n % 256) 128 (by omega) (by omega)
  have e : (((n % 256 : Nat) : Int)) = (n : Int) % 256 := by omega
  rw [e] at h
  have h : bits .or .u8 ((n : Int) % 256) 128 = ((n % 256 ||| 128 : Nat) : Int) := h
  rw [h]
  have h2 : n % 256 ||| 128 = n % 128 + 128 := by
    by_cases h3 : n % 256 < 128
    · have := nat_join 7 128 (n % 256) (by decide) (by simpa using h3)
      rw [Nat.or_comm, this]; omega
    · have h4 : n % 256 = 128 + n % 128 := by omega
      have := nat_join 7 128 (n % 128) (by decide) (by have : n % 128 < 128 := Nat.mod_lt _ (by omega); simpa using this)
      rw [h4, ← this, Nat.or_comm, ← Nat.or_assoc, Nat.or_self, this]; omega
  rw [h2]
  unfold u
  rw [BitVec.toNat_ofNat]
  omega
theorem low256 (n : Nat) (h : n < 256) : (n : Int) = u (BitVec.ofNat 8 n) := by
  unfold u
  rw [BitVec.toNat_ofNat]
  omega

/-- What a call gave: a row of the call's own. -/
def Gave {α : Type} (f : α → Value) (e : TypeId) (base : Nat) (w : World) (l : List α) (en : Ending) (w' : World) : Prop :=
  ∃ A k c, en = .returned (.slice A k c) ∧ Owns f e base w' (.slice A k c) k l ∧ Below base w w'

/-- A one-cell row that was just built. -/
theorem row_one {α : Type} (f : α → Value) (w : World) (x : α) (t : TypeId) (v : Value) (hv : v = f x) : Row f (w.alloc (.cells #[v] t)) (some ⟨w.heap.size, 0, none⟩) 1 1 [x] := by
  subst hv
  refine ⟨rfl, by omega, by omega, fun _ => ⟨_, _, rfl, by simp, fun i y hi => ?_⟩⟩
  have : i = 0 := by
    rcases i with _ | i
    · rfl
    · simp at hi
  subst this
  obtain rfl : x = y := by simpa using hi
  have h := heap_alloc_new w (.cells #[f x] t)
  simp only [World.cell?, h]
  rfl

set_option maxRecDepth 100000 in
set_option maxHeartbeats 800000 in
theorem put_any (base n : Nat) (hn : n < 18446744073709551616) (A : Option Addr) (k c : Nat) (l : List B8) (w : World) (hs : Owns cb 5 base w (.slice A k c) k l) (hb : base ≤ w.heap.size) (hk : k ≤ 200000000000000) :
    Calls Tryz.prog 63 #[.slice A k c, .int .u64 n] w (Gave cb 5 base w (l ++ enc n)) := by
  have h10 := enc_len_le hn
  have HS := Lib.hid hs
  have hK : Hid (k + (enc n).length ≤ 200000000000100) := by show _ ≤ _; omega
  clear hs hk h10
  have HN := Lib.hid hn
  clear hn
  go_enter Tryz.func63, Tryz.ntmps63
  go_wp2
  go_loopw [0, 1] (fun s i wr => ∃ (B : Option Addr) (j d m : Nat) (r : List B8), s = .slice B j d ∧ i = .int .u64 m ∧ Hid (m < 18446744073709551616) ∧ Hid (Owns cb 5 base wr (.slice B j d) j r ∧ Below base w wr ∧ r ++ enc m = l ++ enc n ∧ j + (enc m).length = k + (enc n).length)) (fun _ i _ => (intOf i).toNat)
  case atStart => exact ⟨A, k, c, n, l, rfl, rfl, HN, HS.out, Below.refl _ _, rfl, rfl⟩
  case round =>
    obtain ⟨B, j, d, m, r, rfl, rfl, hm, hO⟩ := hrel
    have hO' := hO.out.1
    have hj : Hid (j + (enc m).length ≤ 200000000000100) := by have := hO.out.2.2.2; have := hK.out; show _ ≤ _; omega
    have e1 := enc_pos m
    have hj1 : j + 1 ≤ 200000000000200 := by have := hj.out; omega
    have HO := Lib.hid hO'
    have HB := Lib.hid (Nat.le_trans hb hO.out.2.1.size)
    clear hO' e1
    by_cases hlt : m < 128
    · have E := Lib.hid (low256 m (by omega))
      have X := Lib.hid (enc_lt hlt)
      go_wp2_with (at_builtin
                   refine wpList_append_row cb_one Tryz.underlying32 info_byte rfl rfl (.tmp 15) (.tmp 18) rfl rfl base (.slice B j d) j r rfl (HO.out.alloc _) _ 1 1 [BitVec.ofNat 8 m] rfl (row_one cb wr _ _ _ (congrArg (Value.int .u8) E.out)) (by omega) (by omega) (by have := HB.out; simp; omega) ?_
                   intro A' c' w' hown' hb')
      go_ret
      refine ⟨_, _, _, rfl, ?_, ?_⟩
      · rw [← hO.out.2.2.1, X.out]; exact hown'
      · exact hO.out.2.1.trans (((Below.refl base wr).alloc HB.out _).trans hb')
    · have E := Lib.hid (or128 m)
      have X := Lib.hid (enc_ge (n := m) (by omega))
      go_wp2_with (at_builtin
                   refine wpList_append_row cb_one Tryz.underlying32 info_byte rfl rfl (.tmp 9) (.tmp 13) rfl rfl base (.slice B j d) j r rfl (HO.out.alloc _) _ 1 1 [BitVec.ofNat 8 (m % 128 + 128)] rfl (row_one cb wr _ _ _ (congrArg (Value.int .u8) E.out)) (by omega) (by omega) (by have := HB.out; simp; omega) ?_
                   intro A' c' w' hown' hb'
                   have HW := Lib.hid hown'
                   have HB' := Lib.hid hb'
                   clear hown' hb')
      go_roundw
      case rel =>
        refine ⟨A', j + 1, c', m / 128, r ++ [BitVec.ofNat 8 (m % 128 + 128)], rfl, ?_, ?_, HW.out, ?_, ?_, ?_⟩
        · first | rfl | go_num
        · have := hm.out; show _ < _; omega
        · exact hO.out.2.1.trans (((Below.refl base wr).alloc HB.out _).trans HB'.out)
        · rw [List.append_assoc, ← hO.out.2.2.1, X.out]; rfl
        · rw [← hO.out.2.2.2, X.out]; simp; omega
      case measure => simp [intOf]; omega

set_option maxRecDepth 100000 in
theorem putN_any (n : Nat) (hn : n < 18446744073709551616) (w : World) :
    Calls Tryz.prog 84 #[.int .u64 n] w (Gave cb 5 w.heap.size w (enc n)) := by
  have H := Lib.hid (put_any w.heap.size n hn none 0 0 [] w (Owns.nil _ _ _ _) (Nat.le_refl _) (by omega))
  clear hn
  go_enter Tryz.func84, Tryz.ntmps84
  go_wp2_with (go_at_call 63; refine H.out.mono ?_; rintro e w' ⟨A, k, c, rfl, h1, h2⟩; have H1 := Lib.hid h1; have H2 := Lib.hid h2; clear h1 h2)
  go_ret
  exact ⟨A, k, c, rfl, H1.out, H2.out⟩

theorem scan_at (l : List B8) (i : Nat) (x : B8) (h : l[i]? = some x) : scan i (l.drop i) = if (i = 9 ∧ 1 < x.toNat) ∨ (0 < i ∧ x.toNat = 0) then (0, 21) else if x.toNat < 128 then (i + 1, 0) else scan (i + 1) (l.drop (i + 1)) := by
  obtain ⟨hi, hx⟩ := List.getElem?_eq_some_iff.1 h
  rw [List.drop_eq_getElem_cons hi, hx, scan]

theorem leaf1 {l : List B8} {i : Nat} {x : B8} {r : Nat × Nat} (h : scan i (l.drop i) = if (i = 9 ∧ 1 < x.toNat) ∨ (0 < i ∧ x.toNat = 0) then (0, 21) else if x.toNat < 128 then (i + 1, 0) else scan (i + 1) (l.drop (i + 1))) (hr : scan i (l.drop i) = r)
    (hc : (i = 9 ∧ 1 < x.toNat) ∨ (0 < i ∧ x.toNat = 0)) : r = (0, 21) := by rw [← hr, h, if_pos hc]
theorem leaf2 {l : List B8} {i : Nat} {x : B8} {r : Nat × Nat} (h : scan i (l.drop i) = if (i = 9 ∧ 1 < x.toNat) ∨ (0 < i ∧ x.toNat = 0) then (0, 21) else if x.toNat < 128 then (i + 1, 0) else scan (i + 1) (l.drop (i + 1))) (hr : scan i (l.drop i) = r)
    (hc : ¬ ((i = 9 ∧ 1 < x.toNat) ∨ (0 < i ∧ x.toNat = 0))) (hx : x.toNat < 128) : r = (i + 1, 0) := by rw [← hr, h, if_neg hc, if_pos hx]
theorem leaf3 {l : List B8} {i : Nat} {x : B8} {r : Nat × Nat} (h : scan i (l.drop i) = if (i = 9 ∧ 1 < x.toNat) ∨ (0 < i ∧ x.toNat = 0) then (0, 21) else if x.toNat < 128 then (i + 1, 0) else scan (i + 1) (l.drop (i + 1))) (hr : scan i (l.drop i) = r)
    (hc : ¬ ((i = 9 ∧ 1 < x.toNat) ∨ (0 < i ∧ x.toNat = 0))) (hx : ¬ x.toNat < 128) : scan (i + 1) (l.drop (i + 1)) = r := by rw [← hr, h, if_neg hc, if_neg hx]
/-- What length tells. -/
def Told (l : List B8) (w : World) (e : Ending) (w' : World) : Prop := e = .returned (.tuple #[.int .i64 ((scan 0 l).1 : Int), .int .i64 ((scan 0 l).2 : Int)]) ∧ w = w'
theorem told_of {l : List B8} {w : World} {a b : Nat} {x y : Int} (h : scan 0 l = (a, b)) (hx : x = a) (hy : y = b) : Told l w (.returned (.tuple #[.int .i64 x, .int .i64 y])) w := by
  unfold Told; rw [h, hx, hy]; exact ⟨rfl, rfl⟩


set_option maxRecDepth 100000 in
set_option maxHeartbeats 800000 in
theorem length_any (A : Option Addr) (n c : Nat) (l : List B8) (w : World) (h : Row cb w A n c l) :
    Calls Tryz.prog 93 #[.slice A n c] w (Told l w) := by
  have HR := Lib.hid h
  have hn := h.big
  clear h
  go_enter Tryz.func93, Tryz.ntmps93
  go_wp2
  go_loop [8] (fun i => ∃ k : Nat, k ≤ n ∧ i = .int .i64 k ∧ Hid (scan k (l.drop k) = scan 0 l)) (fun i => n - (intOf i).toNat)
  case atStart => exact ⟨0, by omega, rfl, rfl⟩
  case round =>
    obtain ⟨k, hk, rfl, hS⟩ := hrel
    by_cases hlt : k < n
    · obtain ⟨x, hx⟩ := HR.out.get hlt
      obtain ⟨b, o, rfl, hcell⟩ := HR.out.cell hx
      have S := Lib.hid (scan_at l k x hx)
      clear hx
      have hx0 := u_nonneg x
      have hx1 := u_lt x
      have hcell' : w.cell? ⟨b, o + k, none⟩ = some (.int .u8 (u x)) := hcell
      have U : Hid (u x = (x.toNat : Int)) := rfl
      clear hcell
      go_wp2
      all_goals first
        | (go_ret2
           have hU := U.out
           (try have hz := eq_of_beq (by assumption : (u x == 0) = true))
           (try have hz := ne_of_beq_false (by assumption : (u x == 0) = false))
           first
             | exact told_of (leaf1 S.out hS.out (by omega)) (by omega) (by omega)
             | exact told_of (leaf2 S.out hS.out (by omega) (by omega)) (by omega) (by omega))
        | (go_round
           case rel =>
             have hU := U.out
             (try have hz := ne_of_beq_false (by assumption : (u x == 0) = false))
             exact ⟨k + 1, by omega, by go_num, leaf3 S.out hS.out (by omega) (by omega)⟩
           case measure => simp [intOf]; omega)
    · have hE : Hid (scan 0 l = (0, 20)) := by
        have e : l.drop k = [] := List.drop_of_length_le (by have := HR.out.len; omega)
        show _ = _
        rw [← hS.out, e]; rfl
      go_wp2
      go_ret2
      exact told_of hE.out rfl rfl
end Wire
end Go.Proofs.YtedandbkdjmfhaaGreat
/-
  slices.Backward OVER BYTES: what it hands out, to a loop that writes into one block of its own.
-/
namespace Go.Proofs.YtedandbkdjmfhaaGreat
open Go.RowKit Go.Shelf Mem
attribute [local go_sem] Oper.semAt_some
namespace Wire

/-- All blocks below N but g lie as they lay. -/
structure Kept (N g : Nat) (W W' : World) : Prop where
  size : W.heap.size ≤ W'.heap.size
  block : ∀ k, k < N → k ≠ g → W'.heap[k]? = W.heap[k]?
theorem Kept.refl (N g : Nat) (W : World) : Kept N g W W := ⟨Nat.le_refl _, fun _ _ _ => rfl⟩
theorem Kept.trans {N g : Nat} {A B C : World} (h : Kept N g A B) (k : Kept N g B C) : Kept N g A C := ⟨Nat.le_trans h.size k.size, fun i h1 h2 => (k.block i h1 h2).trans (h.block i h1 h2)⟩
theorem Kept.of_below {N g : Nat} {W W' : World} (h : Below N W W') : Kept N g W W' := ⟨h.size, fun k hk _ => h.block k hk⟩
theorem Kept.setCell {N g : Nat} (W : World) (o : Nat) (v : Value) : Kept N g W (W.setCell ⟨g, o, none⟩ v) := ⟨by simp [World.setCell], fun k _ hg => Below.heap_setCell _ _ _ _ hg⟩
theorem kept_b {N g : Nat} {w : World} (hN : N ≤ w.heap.size) (W : World) (l : Nat) (o o' : Obj) (hl : w.heap.size ≤ l) (h : W.heap[l]? = some o) (hc : o.isCells = false) (hw : o.isWalk = false) : Kept N g W (W.putObj l o') :=
  Kept.of_below (belowK_b hN W l o o' hl h hc hw)
theorem Kept.cell {N g : Nat} {W W' : World} (h : Kept N g W W') {p : Addr} (hp : p.block < N) (hg : p.block ≠ g) : W'.cell? p = W.cell? p := World.cell?_of_block (h.block _ hp hg)

set_option maxRecDepth 100000 in
set_option maxHeartbeats 2000000 in
theorem back1_in (F : Fence) (n : Nat) (hF : F.fn 80) (hro : F.round = none) (hn : 1 ≤ n) (l Bs N g : Nat) (hBs : Bs < N) (hBg : Bs ≠ g) (b off len cap : Nat) (hb : b < N) (hbg : b ≠ g)
    (xs : List (BitVec 8)) (hlen : xs.length = len) (hbig : len ≤ 140737488351232) (J Jx : List (Nat × BitVec 8) → World → Prop)
    (hY : ∀ pre x W, J pre W → pre.length < len → YieldAt F (n - 1) Tryz.prog l #[.int .i64 (x.1 : Int), .int .u8 (u x.2)] W fun e W' =>
      (e = .returned (.bool true) ∧ J (pre ++ [x]) W' ∧ Kept N g W W') ∨ (e = .returned (.bool false) ∧ Jx (pre ++ [x]) W'))
    (W : World) (hc0 : W.cell? ⟨Bs, 0, none⟩ = some (.slice (some ⟨b, off, none⟩) len cap)) (hc : ∀ j x, xs[j]? = some x → W.cell? ⟨b, off + j, none⟩ = some (.int .u8 (u x))) (h0 : J [] W) :
    CallsIn F n Tryz.prog 80 #[.func (.yield l) #[] #[], .pointer (some ⟨Bs, 0, none⟩)] W fun e W' => (∃ v, e = .returned v) ∧
      ((∃ ys, ys.map (·.2) = xs.reverse ∧ J ys W') ∨ (∃ pre, True ∧ Jx pre W')) := by
  refine callsIn_of_wp Tryz.func80 rfl hF ?_ hro
  simp only [Tryz.ntmps80, List.size_toArray, List.length_cons, List.length_nil, Nat.reduceAdd, Nat.reduceSub, Array.replicate_succ, Array.replicate_zero, List.push_toArray, List.append_toArray, List.nil_append, List.cons_append]
  have HL := Lib.hid hlen
  clear hlen
  gi_wp2
  gi_loopw [3] (fun i wr => ∃ (m : Nat) (z : Int), m ≤ len ∧ i = .int .i64 z ∧ Hid (z = (m : Int) - 1 ∧ (∃ pre : List (Nat × BitVec 8), pre.map (·.2) = (xs.drop m).reverse ∧ pre.length = len - m ∧ J pre wr) ∧ Kept N g W wr))
    (fun i _ => (intOf i + 1).toNat)
  case atStart => exact ⟨len, _, Nat.le_refl _, rfl, rfl, ⟨[], by rw [List.drop_of_length_le (by have := HL.out; omega)]; rfl, by simp, h0⟩, Kept.refl _ _ _⟩
  case round =>
    obtain ⟨m, z, hm, rfl, hH⟩ := hrel
    cases m with
    | zero =>
      obtain rfl : z = -1 := by have := hH.out.1; omega
      gi_wp2
      go_end0
      obtain ⟨-, ⟨pre, hp, -, hJ⟩, -⟩ := hH.out
      exact ⟨⟨_, rfl⟩, .inl ⟨pre, by simpa using hp, hJ⟩⟩
    | succ p =>
      obtain rfl : z = (p : Int) := by have := hH.out.1; omega
      obtain ⟨-, ⟨pre, hp, hpl, hJ⟩, hK⟩ := hH.out
      have HP := Lib.hid hp
      have HPL := Lib.hid hpl
      have hk : p < xs.length := by have := HL.out; omega
      obtain ⟨x, hx⟩ : ∃ x, xs[p]? = some x := ⟨_, List.getElem?_eq_getElem hk⟩
      have HX := Lib.hid hx
      have hcB := (hK.cell (p := ⟨Bs, 0, none⟩) hBs hBg).trans hc0
      have hcx := (hK.cell (p := ⟨b, off + p, none⟩) hb hbg).trans (hc p x hx)
      obtain ⟨fn, tmps, assign, body, hy, hR⟩ := hY pre (p, x) wr hJ (by omega)
      dsimp only at hy
      have HK := Lib.hid hK
      clear hp hpl hx hk hH hK
      gi_wp2
      refine hR.mono ?_
      rintro e W3 (⟨rfl, hJ3, hk3⟩ | ⟨rfl, hJx3⟩)
      · gi_wp2
        go_roundw
        case rel =>
          refine ⟨p, _, by omega, rfl, by omega, ⟨pre ++ [(p, x)], ?_, ?_, hJ3⟩, HK.out.trans hk3⟩
          · obtain ⟨h1, h2⟩ := List.getElem?_eq_some_iff.1 HX.out
            rw [List.map_append, HP.out, List.drop_eq_getElem_cons h1, List.reverse_cons, h2]; rfl
          · have := HPL.out; simp; omega
        case measure => simp [intOf]
      · gi_wp2
        refine bodyPost_ret (results_none rfl _ _ _) rfl ?_
        exact ⟨⟨_, rfl⟩, .inr ⟨_, trivial, hJx3⟩⟩

set_option maxHeartbeats 1000000 in
theorem back_in (F : Fence) (n : Nat) (hF : F.fn 60) (hro : F.round = none) (a : Option Addr) (len cap : Nat) (w : World) :
    CallsIn F n Tryz.prog 60 #[.slice a len cap] w fun e w' => e = .returned (.func (.func 80) #[] #[.pointer (some ⟨w.heap.size, 0, none⟩)]) ∧ w' = w.alloc (.cells #[.slice a len cap] 32) := by
  refine callsIn_of_wp Tryz.func60 rfl hF ?_ hro
  simp only [Tryz.ntmps60, List.size_toArray, List.length_cons, List.length_nil, Nat.reduceAdd, Nat.reduceSub, Array.replicate_succ, Array.replicate_zero, List.push_toArray, List.append_toArray, List.nil_append, List.cons_append]
  gi_wp2
  go_ret
  exact ⟨rfl, rfl⟩

/-- Backward's closure as the law of loops wants it. -/
theorem back_stops (F : Fence) (n : Nat) (hF : F.fn 80) (hro : F.round = none) (hn : 1 ≤ n) (Bs N g : Nat) (hBs : Bs < N) (hBg : Bs ≠ g) (b off len cap : Nat) (hb : b < N) (hbg : b ≠ g)
    (xs : List (BitVec 8)) (hlen : xs.length = len) (hbig : len ≤ 140737488351232) (w : World) (hN : N ≤ w.heap.size) (hc0 : w.cell? ⟨Bs, 0, none⟩ = some (.slice (some ⟨b, off, none⟩) len cap)) (hc : ∀ j x, xs[j]? = some x → w.cell? ⟨b, off + j, none⟩ = some (.int .u8 (u x))) :
    SeqStopsK F n Tryz.prog 80 #[.pointer (some ⟨Bs, 0, none⟩)] (fun x : Nat × BitVec 8 => #[Value.int .i64 (x.1 : Int), Value.int .u8 (u x.2)]) (Kept N g) (fun ys => ys.map (·.2) = xs.reverse)
      (fun _ => True) len w := fun l J Jx W hW _ _ hY h0 => by
  have h1 := (hW.cell (p := ⟨Bs, 0, none⟩) (by simp; omega)).trans hc0
  exact back1_in F n hF hro hn l Bs N g hBs hBg b off len cap hb hbg xs hlen hbig J Jx hY W h1 (fun j x hx => (hW.cell (p := ⟨b, off + j, none⟩) (by simp; omega)).trans (hc j x hx)) h0
end Wire
end Go.Proofs.YtedandbkdjmfhaaGreat
/-
  wire: Take, takeInt, AND TakeFixed: HOW NUMBERS ARE READ.
-/
namespace Go.Proofs.YtedandbkdjmfhaaGreat
open Go.RowKit Go.Shelf Mem
attribute [local go_sem] Oper.semAt_some
namespace Wire

theorem gave_row {α : Type} {f : α → Value} {e : TypeId} {base : Nat} {w' : World} {l : List α} {A : Option Addr} {k c : Nat} (h : Owns f e base w' (.slice A k c) k l) (hl : l.length ≤ 140737488351232) : Row f w' A k c l ∧ k = l.length := by
  obtain ⟨A', c', e3, hrow⟩ := h.row (by have := h.len; omega)
  obtain ⟨rfl, -, rfl⟩ : A = A' ∧ k = k ∧ c = c' := by simpa using e3
  exact ⟨hrow, h.len.symm⟩

/-- What has come so far, as the program reckons it. -/
def accW (pre : List B8) : Nat := (pre.foldl (fun a x => a * 128 + x.toNat % 128) 0) % 18446744073709551616
theorem accW_snoc (pre : List B8) (x : B8) : accW (pre ++ [x]) = (accW pre * 128 + x.toNat % 128) % 18446744073709551616 := by
  unfold accW
  rw [List.foldl_append]
  simp only [List.foldl_cons, List.foldl_nil]
  omega
theorem accW_lt (pre : List B8) : accW pre < 18446744073709551616 := Nat.mod_lt _ (by omega)
theorem fold_dec : ∀ (l : List B8), l.reverse.foldl (fun a x => a * 128 + x.toNat % 128) 0 = dec l := by
  intro l
  induction l with
  | nil => rfl
  | cons x l ih => rw [List.reverse_cons, List.foldl_append, ih]; simp only [List.foldl_cons, List.foldl_nil, dec]; omega
theorem accW_rev (l : List B8) (h : dec l < 18446744073709551616) : accW l.reverse = dec l := by
  unfold accW; rw [fold_dec]; omega
/-- One step of it. -/
theorem or_step (a : Nat) (x : B8) : bits .or .u64 (IntKind.u64.wrap ((a : Int) * 128)) (IntKind.u64.wrap (bits .andNot .u8 (u x) 128)) = (((a * 128 + x.toNat % 128) % 18446744073709551616 : Nat) : Int) := by
  have hx := x.isLt
  have h1 := u8_andNot_nat x.toNat 128 (by omega) (by omega)
  have e1 : bits .andNot .u8 (u x) 128 = ((x.toNat &&& 127 : Nat) : Int) := h1
  have hw : ∀ n : Int, IntKind.u64.wrap n = n % 18446744073709551616 := fun n => by simp [IntKind.wrap, IntKind.bits, IntKind.signed]
  rw [e1, nat_mask7, hw, hw]
  have e2 : (a : Int) * 128 % 18446744073709551616 = ((a * 128 % 18446744073709551616 : Nat) : Int) := by omega
  have e3 : ((x.toNat % 128 : Nat) : Int) % 18446744073709551616 = ((x.toNat % 128 : Nat) : Int) := by omega
  rw [e2, e3, u64_or_nat _ _ (by omega) (by omega)]
  have := nat_join 7 (a * 128 % 18446744073709551616) (x.toNat % 128) (by omega) (by omega)
  rw [this]
  omega

/-- What Take tells. -/
def Took (l : List B8) (w : World) (e : Ending) (w' : World) : Prop := e = .returned (.tuple #[.int .u64 ((take1 l).1 : Int), .int .i64 ((take1 l).2.1 : Int), .int .i64 ((take1 l).2.2 : Int)]) ∧ Below w.heap.size w w'

set_option maxRecDepth 100000 in
set_option maxHeartbeats 2000000 in
theorem take_in (F : Fence) (n : Nat) (hw : F = Fence.wide) (hn : 3 ≤ n) (A : Option Addr) (len cap : Nat) (l : List B8) (w : World) (h : Row cb w A len cap l) :
    CallsIn F n Tryz.prog 79 #[.slice A len cap] w (Took l w) := by
  subst hw
  have h1 : 1 ≤ n := by omega
  refine callsIn_of_wp_marks Tryz.func79 rfl trivial ?_ rfl
  simp only [Tryz.ntmps79, List.size_toArray, List.length_cons, List.length_nil, Nat.reduceAdd, Nat.reduceSub, Array.replicate_succ, Array.replicate_zero, List.push_toArray, List.append_toArray, List.nil_append, List.cons_append]
  have HR := Lib.hid h
  clear h
  rcases hs : scan 0 l with ⟨k, e⟩
  have HS := Lib.hid hs
  clear hs
  by_cases he : e = 0
  · subst he
    have hT := Lib.hid (scan_one l 0 k (by omega) HS.out)
    have HTK : Hid (take1 l = (dec (l.take k), k, 0)) := by show _ = _; unfold take1; rw [HS.out]; rfl
    have HD : Hid (dec (l.take k) < 18446744073709551616) := by have := (take1_one HTK.out).2.2.2.2.1; exact this
    have hk0 : 0 < k := by obtain ⟨j, hj, -⟩ := hT.out; omega
    have hkn : k ≤ len := by obtain ⟨j, hj, hl, -⟩ := hT.out; have := HR.out.len; omega
    have hbig := HR.out.big
    have hcap := HR.out.cap
    have hslice := run_head A len cap k (by omega)
    gi_wp2_with (first
      | (refine ⟨trivial, ?_⟩; gi_at_call 93; refine (callsIn_wide.2 (length_any _ _ _ l _ HR.out)).mono ?_; unfold Told; rw [HS.out]; rintro e w' ⟨rfl, rfl⟩)
      | (refine ⟨trivial, ?_⟩; gi_at_call 60; refine (back_in Fence.wide (n - 1) trivial rfl _ _ _ _).mono ?_; rintro e w' ⟨rfl, rfl⟩))
    obtain ⟨b, o, rfl, hblt, hcell⟩ := HR.out.at_ (by omega)
    have HC := Lib.hid hcell
    clear hcell hslice
    have bN := Boxed.new w 141 (.int .u64 0)
    have bS := Boxed.new (w.alloc (.cells #[.int .u64 0] 141)) 32 (.slice (some ⟨b, o, none⟩) k cap)
    rw [World.size_alloc] at bS
    have hB0 : Below w.heap.size w ((w.alloc (.cells #[.int .u64 0] 141)).alloc (.cells #[.slice (some ⟨b, o, none⟩) k cap] 32)) := ((Below.refl _ w).alloc (Nat.le_refl _) _).alloc (by simp) _
    have hlen : (l.take k).length = k := by have := HR.out.len; simp; omega
    refine wpIn_rangeFunc_ownF rfl h1 (gf := 80) (lb := #[.pointer (some ⟨w.heap.size + 1, 0, none⟩)]) rfl trivial (enters_of Tryz.func80 (by kernel_rfl) rfl)
      (back_stops Fence.wide (n - 1) trivial rfl (by omega) (w.heap.size + 1) (w.heap.size + 2) w.heap.size (by omega) (by omega) b o k cap (by omega) (by omega) (l.take k) hlen (by omega) _ (by simp) bS.cell
        (fun j x hx => by
          rw [List.getElem?_take] at hx
          split at hx
          · exact (hB0.cell (p := ⟨b, o + j, none⟩) hblt).trans (HC.out j x hx)
          · cases hx))
      (fun h k => h.trans k) (kept_b (by simp)) (Below.refl _ _) (fun _ => rfl)
      (fun pre W => (W.cell? ⟨w.heap.size, 0, none⟩ = some (.int .u64 (accW (pre.map (·.2)) : Int)) ∧ W.frozen? ⟨w.heap.size, 0, none⟩ = false) ∧ Below w.heap.size w W)
      (fun _ _ _ => False)
      (OwnFrom.and (Own.from (fun s A B row hs hg hr => ⟨cell_kept hs.1 hg hr, (frozen_kept hs.1 hg hr).trans hs.2⟩) _) (ownFrom_below (Nat.le_refl _) (by simp; omega)))
      (fun _ _ _ _ _ hs _ _ => hs)
      ⟨⟨(bN.alloc _).cell, (bN.alloc _).frozen⟩, hB0⟩
      (fun x => { tmps := #[.slice (some ⟨b, o, none⟩) len cap, undef, .int .u64 0, .int .i64 0, .int .i64 0, .int .i64 k, .int .i64 0, .pointer (some ⟨w.heap.size, 0, none⟩), undef, .int .u8 (u x.2), .tuple #[.int .i64 k, .int .i64 0], .slice (some ⟨b, o, none⟩) len cap,
          .tuple #[.int .i64 k, .int .i64 0], .int .i64 k, .int .i64 0, .int .i64 0, .bool false, undef, .slice (some ⟨b, o, none⟩) len cap, .int .i64 k, .slice (some ⟨b, o, none⟩) k cap, .func (.func 80) #[] #[.pointer (some ⟨w.heap.size + 1, 0, none⟩)],
          .int .i64 (x.1 : Int), .int .u8 (u x.2), undef, undef, undef, undef, undef, undef, undef, undef], defers := [] }) ?assign ?body ?done ?stop
    case assign =>
      intro l x W K hK
      gi_wp2
      exact hK
    case body =>
      rintro l pre x W ⟨⟨hc, hf⟩, hB⟩ _
      have E := Lib.hid (or_step (accW (pre.map (·.2))) x.2)
      have hlt := accW_lt (pre.map (·.2))
      have E2 : Hid (accW ((pre ++ [x]).map (·.2)) = (accW (pre.map (·.2)) * 128 + x.2.toNat % 128) % 18446744073709551616) := by show _ = _; rw [List.map_append]; exact accW_snoc _ _
      generalize accW (pre.map (·.2)) = a at *
      gi_wp2
      exact ⟨KeepsOthers.setCell _ _ _, Kept.setCell _ _ _, ⟨by rw [E2.out, ← E.out]; exact World.cell?_setCell_same' _ _ _ (by rw [hc]; rfl), by rw [World.frozen?_setCell]; exact hf⟩, hB.setCell (p := ⟨w.heap.size, 0, none⟩) (Nat.le_refl _) _⟩
    case done =>
      rintro D ys W hD hys ⟨⟨hc, _⟩, hB⟩ hK
      gi_wp2
      refine ⟨by simp, .inl ⟨_, _, rfl, run_takeDeferred hK, ?_⟩⟩
      refine ⟨.tuple #[.int .u64 ((dec (l.take k) : Nat) : Int), .int .i64 k, .int .i64 0], ?_, ?_, ?_⟩
      · have := accW_rev (l.take k) HD.out
        rw [this]
        simp [results, Tryz.f79, go_sem]
      · rw [HTK.out]; rfl
      · exact hB.trans (belowK_b (w := w) (Nat.le_refl _) W D _ _ (by simp at hD; omega) hK rfl rfl)
    case stop =>
      rintro D c pre W _ _ h _
      exact h.elim
  · have h2 := scan_bad l 0 k e HS.out he
    obtain ⟨rfl, h3⟩ := h2
    have HTK : Hid (take1 l = (0, 0, e)) := by show _ = _; unfold take1; rw [HS.out]; simp [he]
    clear he
    rcases h3 with rfl | rfl
    all_goals
      gi_wp2_with (refine ⟨trivial, ?_⟩; gi_at_call 93; refine (callsIn_wide.2 (length_any _ _ _ l _ HR.out)).mono ?_; unfold Told; rw [HS.out]; rintro e w' ⟨rfl, rfl⟩)
      first
        | exact ⟨.tuple #[.int .u64 0, .int .i64 0, .int .i64 20], by simp [results, Tryz.f79, go_sem], by rw [HTK.out]; rfl, Below.refl _ _⟩
        | exact ⟨.tuple #[.int .u64 0, .int .i64 0, .int .i64 21], by simp [results, Tryz.f79, go_sem], by rw [HTK.out]; rfl, Below.refl _ _⟩

theorem take_any (A : Option Addr) (len cap : Nat) (l : List B8) (w : World) (h : Row cb w A len cap l) :
    Calls Tryz.prog 79 #[.slice A len cap] w (Took l w) := (callsIn_wide (n := 3)).1 (take_in Fence.wide 3 rfl (Nat.le_refl _) A len cap l w h)

/-- .. at a known answer. -/
theorem take_at {A : Option Addr} {len cap : Nat} {l : List B8} {w : World} (h : Row cb w A len cap l) {n k e : Nat} (ht : take1 l = (n, k, e)) :
    Calls Tryz.prog 79 #[.slice A len cap] w fun en w' => en = .returned (.tuple #[.int .u64 (n : Int), .int .i64 (k : Int), .int .i64 (e : Int)]) ∧ Below w.heap.size w w' :=
  (take_any A len cap l w h).mono fun en w' h => by unfold Took at h; rw [ht] at h; exact h

theorem wrap_small (n : Nat) (h : n < 9223372036854775808) : IntKind.i64.wrap (n : Int) = n := by
  simp [IntKind.wrap, IntKind.bits, IntKind.signed]; omega

set_option maxRecDepth 100000 in
set_option maxHeartbeats 800000 in
theorem takeInt_at {A : Option Addr} {len cap : Nat} {l : List B8} {w : World} (h : Row cb w A len cap l) {n k e : Nat} (ht : int1 l = (n, k, e)) :
    Calls Tryz.prog 59 #[.slice A len cap] w fun en w' => en = .returned (.tuple #[.int .i64 (n : Int), .int .i64 (k : Int), .int .i64 (e : Int)]) ∧ Below w.heap.size w w' := by
  have HR := Lib.hid h
  rcases hs : take1 l with ⟨n1, k1, e1⟩
  have HS := Lib.hid hs
  clear h
  unfold int1 at ht
  rw [hs] at ht
  by_cases he : e1 = 0
  · subst he
    simp only [if_pos] at ht
    by_cases hb : 9223372036854775807 < n1
    · rw [if_pos hb] at ht
      simp only [Prod.mk.injEq] at ht
      obtain ⟨rfl, rfl, rfl⟩ := ht
      have hd : decide (9223372036854775807 < (n1 : Int)) = true := by simp; omega
      clear hs hb
      go_enter Tryz.func59, Tryz.ntmps59
      go_wp2_with (go_at_call 79; refine (take_at HR.out HS.out).mono ?_; rintro en w' ⟨rfl, hb⟩; have HB := Lib.hid hb; clear hb)
      go_ret3
      exact ⟨rfl, HB.out⟩
    · rw [if_neg hb] at ht
      simp only [Prod.mk.injEq] at ht
      obtain ⟨rfl, rfl, rfl⟩ := ht
      have hd : decide (9223372036854775807 < (n1 : Int)) = false := by simp; omega
      have hw := wrap_small n1 (by omega)
      clear hs hb
      go_enter Tryz.func59, Tryz.ntmps59
      go_wp2_with (go_at_call 79; refine (take_at HR.out HS.out).mono ?_; rintro en w' ⟨rfl, hb⟩; have HB := Lib.hid hb; clear hb)
      go_ret3
      exact ⟨rfl, HB.out⟩
  · rw [if_neg he] at ht
    simp only [Prod.mk.injEq] at ht
    obtain ⟨rfl, rfl, rfl⟩ := ht
    obtain ⟨rfl, rfl, h3, -⟩ := take1_bad hs he
    clear hs he
    rcases h3 with rfl | rfl
    all_goals
      go_enter Tryz.func59, Tryz.ntmps59
      go_wp2_with (go_at_call 79; refine (take_at HR.out HS.out).mono ?_; rintro en w' ⟨rfl, hb⟩; have HB := Lib.hid hb; clear hb)
      go_ret3
      exact ⟨rfl, HB.out⟩
end Wire
end Go.Proofs.YtedandbkdjmfhaaGreat
