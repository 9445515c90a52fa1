/-
  PACKS IN PLAIN: what a pack comes to by what is added, where each record's bytes will stand, and that they stand there.
-/
import Derived.Test.YtedandbkdjmfhaaSegPre
namespace Go.Proofs.Ytedandbkdjmfhaa
namespace Pk
open Seg Wire

/-- A pack in plain. -/
structure Pp where
  h : Hdr
  zone : Int
  cap : Int
  at_ : Int
  buf : List B8
  l : List Rc
def zeroP : Pp := ⟨⟨0, 0, 0⟩, 0, 0, 0, [], []⟩
/-- How long a record's frame is; where its bytes stand in it. -/
def flen (r : Rc) : Nat := (frame (recX r)).length
def placeR (r : Rc) : Int := (flen r : Int) - 4 - (r.data.length : Int)
def places : Int → List Rc → List Int
  | _, [] => []
  | e, r :: l => (e + placeR r) :: places (e + (flen r : Int)) l
def roomP (p : Pp) : Int := max 0 (p.cap - (p.at_ + (p.buf.length : Int)))
def errB (l : List Rc) : Nat := (recsB l).2
def fitsP (p : Pp) (l : List Rc) : Prop := p.at_ + (p.buf.length : Int) + ((frames l).length : Int) ≤ p.cap
instance (p : Pp) (l : List Rc) : Decidable (fitsP p l) := by unfold fitsP; infer_instance
def moreP (p : Pp) (l : List Rc) : Pp := ⟨p.h, p.zone, p.cap, p.at_, p.buf ++ frames l, p.l ++ l⟩
/-- What Add tells: the pack, the places, the error. -/
def addP (p : Pp) (l : List Rc) : Pp × List Int × Nat :=
  if errB l = 0 then (if fitsP p l then (moreP p l, places (p.at_ + (p.buf.length : Int)) l, 0) else (zeroP, [], 40)) else (zeroP, [], errB l)
def behindP (p : Pp) : Pp := ⟨p.h, p.zone, p.cap, p.at_ + (p.buf.length : Int), [], []⟩
/-- A pack that may be. -/
structure OkP (p : Pp) : Prop where
  at0 : 0 ≤ p.at_
  room : p.at_ + (p.buf.length : Int) ≤ p.cap
  cap : p.cap ≤ 65536
  few : p.l.length ≤ p.buf.length
  data : ∀ r ∈ p.l, check r = 0

theorem flen_ge (r : Rc) : 5 ≤ flen r := frame_ge _
theorem frames_nil : frames [] = [] := rfl
theorem frames_one (r : Rc) : (frames [r]).length = flen r := by simp [frames, flen]
theorem frames_ge : ∀ l : List Rc, 5 * l.length ≤ (frames l).length
  | [] => by simp
  | r :: l => by
    have h1 := frames_ge l
    have h2 := flen_ge r
    rw [frames_cons, List.length_append, List.length_cons]
    unfold flen at h2
    omega
theorem frames_len_cons (r : Rc) (l : List Rc) : (frames (r :: l)).length = flen r + (frames l).length := by rw [frames_cons, List.length_append]; rfl
theorem flen_le {r : Rc} (hf : fits (nums r)) (h : check r = 0) : flen r ≤ 40100 := by
  have h1 := recX_len hf h
  have h2 := frame_len (recX r)
  have h3 := enc_len_le (n := (recX r).length) (by omega)
  unfold flen
  omega
theorem recX_ge (r : Rc) : r.data.length ≤ (recX r).length := by
  unfold recX encV
  simp only [List.length_append]
  omega
theorem placeR_ge (r : Rc) : 0 ≤ placeR r := by
  have h1 := frame_len (recX r)
  have h2 := recX_ge r
  unfold placeR flen
  omega
theorem placeR_le (r : Rc) : placeR r + (r.data.length : Int) + 4 = (flen r : Int) := by unfold placeR; omega
/-- Where it is told, a record's bytes stand. -/
theorem place_data (r : Rc) : ((frame (recX r)).drop (placeR r).toNat).take r.data.length = r.data := by
  have h1 := frame_len (recX r)
  have e : frame (recX r) = (enc (recX r).length ++ encs ((nums r).map Int.toNat) ++ enc r.data.length) ++ (r.data ++ Seg.enc4 (sumOf (recX r))) := by
    unfold frame
    rw [show encV (recX r) = enc (recX r).length ++ recX r from rfl, show recX r = encs ((nums r).map Int.toNat) ++ encV r.data from rfl, show encV r.data = enc r.data.length ++ r.data from rfl]
    simp only [List.append_assoc]
  have hl : (placeR r).toNat = (enc (recX r).length ++ encs ((nums r).map Int.toNat) ++ enc r.data.length).length := by
    have h4 := congrArg List.length e
    have h5 : (r.data ++ Seg.enc4 (sumOf (recX r))).length = r.data.length + 4 := by rw [List.length_append, Seg.enc4_len]
    rw [List.length_append, h5] at h4
    unfold placeR flen
    omega
  rw [hl, e, List.drop_left, List.take_left]
theorem places_len : ∀ (l : List Rc) (e : Int), (places e l).length = l.length
  | [], _ => rfl
  | r :: l, e => by simp [places, places_len l]
theorem places_append : ∀ (l m : List Rc) (e : Int), places e (l ++ m) = places e l ++ places (e + ((frames l).length : Int)) m
  | [], m, e => by simp [places, frames_nil]
  | r :: l, m, e => by
    rw [List.cons_append, places, places, places_append l m, frames_len_cons, List.cons_append]
    congr 2
    congr 1
    rw [Int.natCast_add]
    omega
theorem places_one (r : Rc) (e : Int) : places e [r] = [e + placeR r] := rfl
theorem places_snoc (l : List Rc) (r : Rc) (e : Int) : places e (l ++ [r]) = places e l ++ [e + ((frames l).length : Int) + placeR r] := by rw [places_append, places_one]
theorem places_get : ∀ (l : List Rc) (e : Int) (i : Nat) (r : Rc), l[i]? = some r → (places e l)[i]? = some (e + ((frames (l.take i)).length : Int) + placeR r)
  | [], _, _, _, h => by simp at h
  | a :: l, e, 0, r, h => by
    simp only [List.getElem?_cons_zero, Option.some.injEq] at h
    subst h
    simp [places, frames_nil]
  | a :: l, e, i + 1, r, h => by
    rw [List.getElem?_cons_succ] at h
    rw [places, List.getElem?_cons_succ, places_get l _ i r h, List.take_succ_cons, frames_len_cons]
    congr 1
    rw [Int.natCast_add]
    omega

theorem errB_nil : errB [] = 0 := rfl
theorem errB_ok {l : List Rc} (h : ∀ r ∈ l, check r = 0) : errB l = 0 := by unfold errB; rw [recsB_ok l h]
theorem errB_zero {l : List Rc} (h : errB l = 0) : ∀ r ∈ l, check r = 0 := by
  rcases hr : recsB l with ⟨b, e⟩
  unfold errB at h
  rw [hr] at h
  rcases recsB_bad l b e hr with ⟨_, h1⟩ | ⟨h1, _⟩
  · exact h1
  · exact absurd h h1
theorem errB_iff {l : List Rc} : errB l = 0 ↔ ∀ r ∈ l, check r = 0 := ⟨errB_zero, errB_ok⟩
theorem errB_le (l : List Rc) : errB l = 0 ∨ errB l = 1 ∨ errB l = 2 := by
  rcases hr : recsB l with ⟨b, e⟩
  unfold errB
  rw [hr]
  rcases recsB_bad l b e hr with ⟨h1, _⟩ | ⟨h1, _, i, r, _, hc, _⟩
  · exact .inl h1
  · show e = 0 ∨ e = 1 ∨ e = 2
    rw [← hc]
    exact check_le r
theorem errB_one (r : Rc) : errB [r] = check r := by
  unfold errB recsB recsB
  by_cases h : check r = 0
  · rw [if_pos h, h]; rfl
  · rw [if_neg h]
theorem errB_at {l : List Rc} {k : Nat} {r : Rc} {e : Nat} (h1 : ∀ r ∈ l.take k, check r = 0) (h2 : l[k]? = some r) (h3 : check r = e) (h4 : e ≠ 0) : errB l = e := by
  unfold errB
  rw [recsB_at l k r e h1 h2 h3 h4]
theorem errB_append (l m : List Rc) : errB (l ++ m) = if errB l = 0 then errB m else errB l := by
  induction l with
  | nil => rw [List.nil_append, errB_nil, if_pos rfl]
  | cons r l ih =>
    unfold errB at *
    rw [List.cons_append, recsB, recsB]
    by_cases h : check r = 0
    · rw [if_pos h, if_pos h]
      dsimp only
      have e : ∀ (t : List B8 × Nat), (if t.2 = 0 then (frame (recX r) ++ t.1, 0) else (([] : List B8), t.2)).2 = t.2 := by
        intro t
        split
        · next h => exact h.symm
        · rfl
      rw [e, e, ih]
    · rw [if_neg h, if_neg h]
      dsimp only
      rw [if_neg h]

theorem addP_ok {p : Pp} {l : List Rc} (h1 : errB l = 0) (h2 : fitsP p l) : addP p l = (moreP p l, places (p.at_ + (p.buf.length : Int)) l, 0) := by unfold addP; rw [if_pos h1, if_pos h2]
theorem addP_full {p : Pp} {l : List Rc} (h1 : errB l = 0) (h2 : ¬ fitsP p l) : addP p l = (zeroP, [], 40) := by unfold addP; rw [if_pos h1, if_neg h2]
theorem addP_bad {p : Pp} {l : List Rc} (h1 : errB l ≠ 0) : addP p l = (zeroP, [], errB l) := by unfold addP; rw [if_neg h1]
theorem addP_cases (p : Pp) (l : List Rc) : (errB l = 0 ∧ fitsP p l ∧ addP p l = (moreP p l, places (p.at_ + (p.buf.length : Int)) l, 0)) ∨ (∃ e, e ≠ 0 ∧ (e = 1 ∨ e = 2 ∨ e = 40) ∧ addP p l = (zeroP, [], e)) := by
  by_cases h1 : errB l = 0
  · by_cases h2 : fitsP p l
    · exact .inl ⟨h1, h2, addP_ok h1 h2⟩
    · exact .inr ⟨40, by omega, by omega, addP_full h1 h2⟩
  · exact .inr ⟨errB l, h1, by rcases errB_le l with h | h | h <;> omega, addP_bad h1⟩
theorem OkP.more {p : Pp} (h : OkP p) {l : List Rc} (h1 : errB l = 0) (h2 : fitsP p l) : OkP (moreP p l) := by
  have h3 := frames_ge l
  have h4 := h.few
  refine ⟨h.at0, ?_, h.cap, ?_, fun r hr => ?_⟩
  · unfold fitsP at h2
    show p.at_ + (((p.buf ++ frames l).length : Nat) : Int) ≤ p.cap
    rw [List.length_append]
    omega
  · show (p.l ++ l).length ≤ (p.buf ++ frames l).length
    simp only [List.length_append]
    omega
  · rcases List.mem_append.1 hr with hr | hr
    · exact h.data r hr
    · exact errB_zero h1 r hr
theorem OkP.behind {p : Pp} (h : OkP p) : OkP (behindP p) := by
  have := h.at0
  refine ⟨?_, ?_, h.cap, Nat.le_refl _, by simp [behindP]⟩
  · show 0 ≤ p.at_ + (p.buf.length : Int)
    omega
  · show p.at_ + (p.buf.length : Int) + ((0 : Nat) : Int) ≤ p.cap
    have := h.room
    omega
theorem OkP.zero : OkP zeroP := ⟨by decide, by decide, by decide, by decide, by simp [zeroP]⟩
theorem OkP.buf_le {p : Pp} (h : OkP p) : p.buf.length ≤ 65536 := by have := h.at0; have := h.room; have := h.cap; omega
theorem OkP.at_le {p : Pp} (h : OkP p) : p.at_ ≤ 65536 := by have := h.room; have := h.cap; omega
theorem OkP.l_le {p : Pp} (h : OkP p) : p.l.length ≤ 65536 := Nat.le_trans h.few h.buf_le
theorem OkP.roomP {p : Pp} (h : OkP p) : roomP p = p.cap - (p.at_ + (p.buf.length : Int)) := by unfold Pk.roomP; have := h.room; omega
theorem moreP_nil (p : Pp) : moreP p [] = p := by unfold moreP; simp [frames_nil]
theorem moreP_more (p : Pp) (l m : List Rc) : moreP (moreP p l) m = moreP p (l ++ m) := by unfold moreP; simp [frames_append]
theorem fitsP_nil {p : Pp} (h : OkP p) : fitsP p [] := by unfold fitsP; have := h.room; simp [frames_nil]; omega
/-- One more record fits where there is room for its frame. -/
theorem fitsP_snoc (p : Pp) (l : List Rc) (r : Rc) : fitsP p (l ++ [r]) ↔ p.at_ + ((p.buf.length : Int) + ((frames l).length : Int)) + (flen r : Int) ≤ p.cap := by
  unfold fitsP
  rw [frames_append, List.length_append, frames_one]
  omega
theorem fitsP_more (p : Pp) (l m : List Rc) : fitsP (moreP p l) m ↔ fitsP p (l ++ m) := by
  unfold fitsP moreP
  simp only [frames_append, List.length_append]
  omega
theorem fitsP_left {p : Pp} {l m : List Rc} (h : fitsP p (l ++ m)) : fitsP p l := by
  unfold fitsP at *
  rw [frames_append, List.length_append] at h
  omega

/-! ### Begun, and gone on with -/
def mayZ (zone most : Int) : Prop := 0 ≤ zone ∧ 1 ≤ most ∧ most ≤ 65536
instance (z m : Int) : Decidable (mayZ z m) := by unfold mayZ; infer_instance
instance nnDec (l : List Int) : Decidable (nn l) := by unfold nn; infer_instance
def beginP (h : Hdr) (zone most : Int) : Pp × Nat :=
  if nn (hnums h) then (if mayZ zone most then (if ((frame (headX h)).length : Int) ≤ most then (⟨h, zone, most, 0, frame (headX h), []⟩, 0) else (zeroP, 40)) else (zeroP, 1)) else (zeroP, 1)
theorem head_len {h : Hdr} (hf : fits (hnums h)) (hn : nn (hnums h)) : (frame (headX h)).length ≤ 100 := by
  have h1 := headX_len h hf hn
  have h2 := frame_len (headX h)
  have h3 := enc_len_le (n := (headX h).length) (by omega)
  omega
theorem begin_cases (h : Hdr) (zone most : Int) : (nn (hnums h) ∧ mayZ zone most ∧ ((frame (headX h)).length : Int) ≤ most ∧ beginP h zone most = (⟨h, zone, most, 0, frame (headX h), []⟩, 0)) ∨ beginP h zone most = (zeroP, 1) ∨ beginP h zone most = (zeroP, 40) := by
  unfold beginP
  by_cases h1 : nn (hnums h)
  · rw [if_pos h1]
    by_cases h2 : mayZ zone most
    · rw [if_pos h2]
      by_cases h3 : ((frame (headX h)).length : Int) ≤ most
      · rw [if_pos h3]; exact .inl ⟨h1, h2, h3, rfl⟩
      · rw [if_neg h3]; exact .inr (.inr rfl)
    · rw [if_neg h2]; exact .inr (.inl rfl)
  · rw [if_neg h1]; exact .inr (.inl rfl)
theorem OkP.begun {h : Hdr} {zone most : Int} (h2 : mayZ zone most) (h3 : ((frame (headX h)).length : Int) ≤ most) : OkP ⟨h, zone, most, 0, frame (headX h), []⟩ :=
  ⟨by show (0 : Int) ≤ 0; omega, by show (0 : Int) + _ ≤ most; simpa using h3, h2.2.2, by simp, by simp⟩
theorem OkP.resumed {h : Hdr} {zone most at_ : Int} (h2 : mayZ zone most) (h0 : 0 ≤ at_) (h3 : at_ ≤ most) : OkP ⟨h, zone, most, at_, [], []⟩ :=
  ⟨h0, by show at_ + ((0 : Nat) : Int) ≤ most; omega, h2.2.2, by simp, by simp⟩
end Pk
end Go.Proofs.Ytedandbkdjmfhaa
