/-
  extent IN PLAIN: extents, which lists may be, what is told of a block, and what each call comes to.
-/
import Derived.Test.YtnnphpfobdcmbaaMem
namespace Go.Proofs.Ytnnphpfobdcmbaa
open Go.RowKit Mem
namespace Ext
structure Ex where
  lba : Int
  n : Int
  ver : Int
  zone : Int
  off : Int
def Ex.en (x : Ex) : Int := x.lba + x.n
def zE : Ex := ⟨0, 0, 0, 0, 0⟩
def errOf (b : Bool) : Int := bif b then 0 else 1
def mayE (x : Ex) : Bool := decide (0 ≤ x.lba) && (decide (1 ≤ x.n) && (decide (x.lba + x.n ≤ 1099511627776) && (decide (0 ≤ x.ver) &&
  (bif x.zone == -1 then x.off == 0 else decide (0 ≤ x.zone) && (decide (x.zone ≤ 1099511627776) && (decide (0 ≤ x.off) && decide (x.off + 16 * x.n ≤ 1125899906842624)))))))
def MayX (x : Ex) : Prop := 0 ≤ x.lba ∧ 1 ≤ x.n ∧ x.lba + x.n ≤ 1099511627776 ∧ 0 ≤ x.ver ∧ (x.zone = -1 ∧ x.off = 0 ∨ 0 ≤ x.zone ∧ x.zone ≤ 1099511627776 ∧ 0 ≤ x.off ∧ x.off + 16 * x.n ≤ 1125899906842624)
theorem mayE_iff {x : Ex} : mayE x = true ↔ MayX x := by
  unfold mayE MayX
  by_cases h : x.zone = -1
  · have : (x.zone == -1) = true := by simpa using h
    simp only [this, cond_true, Bool.and_eq_true, decide_eq_true_eq, beq_iff_eq]
    omega
  · have : (x.zone == -1) = false := by simpa using h
    simp only [this, cond_false, Bool.and_eq_true, decide_eq_true_eq]
    omega
def Ok : Int → List Ex → Prop
  | _, [] => True
  | f, x :: r => MayX x ∧ f ≤ x.lba ∧ Ok x.en r
def okF : Int → List Ex → Bool
  | _, [] => true
  | f, x :: r => (mayE x && decide (f ≤ x.lba)) && okF x.en r
def okE (l : List Ex) : Bool := okF 0 l
theorem okF_iff {f : Int} {l : List Ex} : okF f l = true ↔ Ok f l := by
  induction l generalizing f with
  | nil => simp [okF, Ok]
  | cons x r ih => simp only [okF, Ok, Bool.and_eq_true, decide_eq_true_eq, ih, mayE_iff, and_assoc]
theorem okE_iff {l : List Ex} : okE l = true ↔ Ok 0 l := okF_iff
theorem Ok.low {f g : Int} {l : List Ex} (h : Ok f l) (hg : g ≤ f) : Ok g l := by
  cases l with
  | nil => trivial
  | cons x r => exact ⟨h.1, Int.le_trans hg h.2.1, h.2.2⟩
theorem Ok.may {f : Int} {l : List Ex} (h : Ok f l) : ∀ x ∈ l, MayX x := by
  induction l generalizing f with
  | nil => intro x hx; cases hx
  | cons y r ih =>
    intro x hx
    rcases List.mem_cons.1 hx with rfl | hx
    · exact h.1
    · exact ih h.2.2 x hx
theorem en_lt {x : Ex} (h : MayX x) : x.lba < x.en := by have := h.2.1; unfold Ex.en; omega
theorem en_le {x : Ex} (h : MayX x) : x.en ≤ 1099511627776 := h.2.2.1
/-- All end at t at the latest. -/
def Ends (t : Int) (l : List Ex) : Prop := ∀ x ∈ l, x.en ≤ t
theorem Ok.ends {f : Int} {l : List Ex} (h : Ok f l) : Ends 1099511627776 l := fun x hx => en_le (h.may x hx)
theorem Ok.from {f : Int} {l : List Ex} (h : Ok f l) : ∀ x ∈ l, f ≤ x.lba := by
  induction l generalizing f with
  | nil => intro x hx; cases hx
  | cons y r ih =>
    intro x hx
    rcases List.mem_cons.1 hx with rfl | hx
    · exact h.2.1
    · have h1 := ih h.2.2 x hx
      have h2 := en_lt h.1
      have h3 := h.2.1
      omega
theorem ok_append {f g : Int} {a b : List Ex} (ha : Ok f a) (hb : Ok g b) (he : Ends g a) (hfg : f ≤ g) : Ok f (a ++ b) := by
  induction a generalizing f with
  | nil => exact hb.low hfg
  | cons x r ih => exact ⟨ha.1, ha.2.1, ih ha.2.2 (fun y hy => he y (List.mem_cons_of_mem _ hy)) (he x List.mem_cons_self)⟩
theorem ok_split {f : Int} {a b : List Ex} (h : Ok f (a ++ b)) : Ok f a ∧ ∃ g, Ok g b ∧ Ends g a ∧ f ≤ g := by
  induction a generalizing f with
  | nil => exact ⟨trivial, f, h, (fun x hx => by cases hx), Int.le_refl _⟩
  | cons x r ih =>
    obtain ⟨h1, g, h2, h3, h4⟩ := ih h.2.2
    refine ⟨⟨h.1, h.2.1, h1⟩, g, h2, fun y hy => ?_, ?_⟩
    · rcases List.mem_cons.1 hy with rfl | hy
      · exact h4
      · exact h3 y hy
    · have := en_lt h.1; have := h.2.1; omega
/-! ### What is told of a block -/
def blk (x : Ex) (k : Int) : Int × Int × Int := (x.ver, x.zone, if x.zone = -1 then 0 else x.off + 16 * (k - x.lba))
def has (x : Ex) (k : Int) : Prop := x.lba ≤ k ∧ k < x.en
instance (x : Ex) (k : Int) : Decidable (has x k) := inferInstanceAs (Decidable (_ ∧ _))
def tell : List Ex → Int → Option (Int × Int × Int)
  | [], _ => none
  | x :: r, k => if has x k then some (blk x k) else tell r k
theorem tell_append (a b : List Ex) (k : Int) : tell (a ++ b) k = (tell a k).or (tell b k) := by
  induction a with
  | nil => rfl
  | cons x r ih =>
    simp only [List.cons_append, tell, ih]
    split <;> rfl
theorem tell_low {f k : Int} {l : List Ex} (h : Ok f l) (hk : k < f) : tell l k = none := by
  induction l generalizing f with
  | nil => rfl
  | cons x r ih =>
    have h1 := h.2.1
    have h2 := en_lt h.1
    rw [tell, if_neg (by unfold has; omega)]
    exact ih h.2.2 (by omega)
theorem tell_past {t k : Int} {l : List Ex} (h : Ends t l) (hk : t ≤ k) : tell l k = none := by
  induction l with
  | nil => rfl
  | cons x r ih =>
    have h1 := h x List.mem_cons_self
    rw [tell, if_neg (by unfold has; omega)]
    exact ih fun y hy => h y (List.mem_cons_of_mem _ hy)
theorem tell_high {f k : Int} {l : List Ex} (h : Ok f l) (hk : 1099511627776 ≤ k) : tell l k = none := tell_past h.ends hk
theorem tell_head {x : Ex} {r : List Ex} (h : MayX x) : tell (x :: r) x.lba = some (blk x x.lba) := by
  have := en_lt h
  rw [tell, if_pos (by unfold has; omega)]
/-! ### Cut to some blocks -/
def cutE (x : Ex) (a b : Int) : Ex := ⟨a, b - a, x.ver, x.zone, bif x.zone == -1 then x.off else x.off + (a - x.lba) * 16⟩
theorem cutE_off (x : Ex) (a b : Int) : (cutE x a b).off = if x.zone = -1 then x.off else x.off + (a - x.lba) * 16 := by
  unfold cutE
  by_cases h : x.zone = -1
  · have : (x.zone == -1) = true := by simpa using h
    simp [h]
  · have : (x.zone == -1) = false := by simpa using h
    simp [this, h]
theorem cutE_none {x : Ex} {a b : Int} (h : (x.zone != -1) = false) : cutE x a b = ⟨a, b - a, x.ver, x.zone, x.off⟩ := by
  have : (x.zone == -1) = true := by simpa [bne] using h
  unfold cutE; rw [this]; rfl
theorem cutE_some {x : Ex} {a b : Int} (h : (x.zone != -1) = true) : cutE x a b = ⟨a, b - a, x.ver, x.zone, x.off + (a - x.lba) * 16⟩ := by
  have : (x.zone == -1) = false := by simpa [bne] using h
  unfold cutE; rw [this]; rfl
theorem ex_ext {x y : Ex} (h1 : x.lba = y.lba) (h2 : x.n = y.n) (h3 : x.ver = y.ver) (h4 : x.zone = y.zone) (h5 : x.off = y.off) : x = y := by
  cases x; cases y; simp_all
theorem cutE_self (x : Ex) : cutE x x.lba x.en = x := by
  refine ex_ext rfl ?_ rfl rfl ?_
  · show x.en - x.lba = x.n; unfold Ex.en; omega
  · rw [cutE_off]; split <;> omega
theorem cutE_en (x : Ex) (a b : Int) : (cutE x a b).en = b := by show a + (b - a) = b; omega
def clip (a b : Int) (x : Ex) : Ex := cutE x (max x.lba a) (min x.en b)
def touch (a b : Int) (x : Ex) : Bool := decide (a < x.en) && decide (x.lba < b)
def clips (a b : Int) (l : List Ex) : List Ex := bif decide (a < b) then (l.filter (touch a b)).map (clip a b) else []
theorem touch_iff {a b : Int} {x : Ex} : touch a b x = true ↔ a < x.en ∧ x.lba < b := by unfold touch; simp only [Bool.and_eq_true, decide_eq_true_eq]
theorem clips_nil (a b : Int) : clips a b [] = [] := by unfold clips; cases decide (a < b) <;> rfl
theorem clips_none {a b : Int} (h : b ≤ a) (l : List Ex) : clips a b l = [] := by
  have : decide (a < b) = false := decide_eq_false (by omega)
  unfold clips; rw [this]; rfl
theorem clips_cons {a b : Int} (h : a < b) (x : Ex) (l : List Ex) : clips a b (x :: l) = if a < x.en ∧ x.lba < b then clip a b x :: clips a b l else clips a b l := by
  have hd : decide (a < b) = true := decide_eq_true h
  unfold clips
  simp only [hd, cond_true]
  by_cases ht : a < x.en ∧ x.lba < b
  · rw [if_pos ht, List.filter_cons_of_pos (touch_iff.2 ht), List.map_cons]
  · rw [if_neg ht, List.filter_cons_of_neg (fun h => ht (touch_iff.1 h))]
theorem clip_lba (a b : Int) (x : Ex) : (clip a b x).lba = max x.lba a := rfl
theorem clip_en (a b : Int) (x : Ex) : (clip a b x).en = min x.en b := cutE_en _ _ _
theorem clip_may {a b : Int} {x : Ex} (h : MayX x) (h1 : a < x.en) (h2 : x.lba < b) (hab : a < b) : MayX (clip a b x) := by
  obtain ⟨m1, m2, m3, m4, m5⟩ := h
  have he : x.en = x.lba + x.n := rfl
  have ho := cutE_off x (max x.lba a) (min x.en b)
  have hn : (clip a b x).n = min x.en b - max x.lba a := rfl
  refine ⟨?_, ?_, ?_, m4, ?_⟩
  · rw [clip_lba]; omega
  · rw [hn]; omega
  · rw [hn, clip_lba]; omega
  · show x.zone = -1 ∧ (clip a b x).off = 0 ∨ 0 ≤ x.zone ∧ x.zone ≤ 1099511627776 ∧ 0 ≤ (clip a b x).off ∧ (clip a b x).off + 16 * (clip a b x).n ≤ 1125899906842624
    rw [hn, show (clip a b x).off = _ from ho]
    rcases m5 with ⟨q1, q2⟩ | ⟨q1, q2, q3, q4⟩
    · rw [if_pos q1]; exact .inl ⟨q1, q2⟩
    · rw [if_neg (by omega)]; exact .inr ⟨q1, q2, by omega, by omega⟩
theorem clip_blk (a b k : Int) (x : Ex) : blk (clip a b x) k = blk x k := by
  have ho : (clip a b x).off = _ := cutE_off x (max x.lba a) (min x.en b)
  unfold blk
  rw [ho, clip_lba]
  show (x.ver, x.zone, _) = _
  by_cases h : x.zone = -1
  · have h' : (clip a b x).zone = -1 := h
    simp [h', h]
  · have h' : ¬ (clip a b x).zone = -1 := h
    simp only [if_neg h, if_neg h', Prod.mk.injEq, true_and]
    omega
theorem may_zone {x : Ex} (h : MayX x) : x.zone = -1 → x.off = 0 := by
  rcases h.2.2.2.2 with h | h
  · exact fun _ => h.2
  · intro h'; omega
theorem tell_clips {f a b : Int} {l : List Ex} (h : Ok f l) (k : Int) : tell (clips a b l) k = if a ≤ k ∧ k < b then tell l k else none := by
  by_cases hab : a < b
  · induction l generalizing f with
    | nil => rw [clips_nil]; simp [tell]
    | cons x r ih =>
      have ihr := ih h.2.2
      have hm := h.1
      rw [clips_cons hab]
      by_cases ht : a < x.en ∧ x.lba < b
      · rw [if_pos ht, tell, tell, clip_blk _ _ _ _, ihr]
        by_cases hk : a ≤ k ∧ k < b
        · rw [if_pos hk, if_pos hk]
          by_cases hx : has x k
          · have : has (clip a b x) k := by unfold has at *; rw [clip_lba, clip_en]; omega
            rw [if_pos hx, if_pos this]
          · have : ¬ has (clip a b x) k := by unfold has at *; rw [clip_lba, clip_en]; omega
            rw [if_neg hx, if_neg this]
        · have : ¬ has (clip a b x) k := by unfold has at *; rw [clip_lba, clip_en]; omega
          rw [if_neg hk, if_neg hk, if_neg this]
      · rw [if_neg ht, ihr]
        by_cases hk : a ≤ k ∧ k < b
        · have : ¬ has x k := by unfold has at *; omega
          rw [if_pos hk, if_pos hk, tell, if_neg this]
        · rw [if_neg hk, if_neg hk]
  · rw [clips_none (by omega), if_neg (by omega)]; rfl
theorem ok_clips {f g a b : Int} {l : List Ex} (h : Ok f l) (hg : g ≤ max f a) : Ok g (clips a b l) := by
  by_cases hab : a < b
  · induction l generalizing f g with
    | nil => rw [clips_nil]; trivial
    | cons x r ih =>
      have hx := en_lt h.1
      have hf := h.2.1
      rw [clips_cons hab]
      by_cases ht : a < x.en ∧ x.lba < b
      · rw [if_pos ht]
        refine ⟨clip_may h.1 ht.1 ht.2 hab, by rw [clip_lba]; omega, ?_⟩
        rw [clip_en]
        exact ih h.2.2 (by omega)
      · rw [if_neg ht]
        exact ih h.2.2 (by omega)
  · rw [clips_none (by omega)]; trivial
theorem ends_clips (a b : Int) (l : List Ex) : Ends b (clips a b l) := by
  intro x hx
  unfold clips at hx
  cases hd : decide (a < b)
  · rw [hd] at hx; cases hx
  · rw [hd, cond_true] at hx
    obtain ⟨y, -, rfl⟩ := List.mem_map.1 hx
    rw [clip_en]; omega
theorem clips_len (a b : Int) (l : List Ex) : (clips a b l).length ≤ l.length := by
  unfold clips
  cases decide (a < b)
  · exact Nat.zero_le _
  · rw [cond_true, List.length_map]; exact List.length_filter_le _ _
theorem clips_all {f a b : Int} {l : List Ex} (h : Ok f l) (ha : a ≤ f) (hb : Ends b l) (hab : a < b) : clips a b l = l := by
  induction l generalizing f with
  | nil => exact clips_nil _ _
  | cons x r ih =>
    have hx := en_lt h.1
    have hf := h.2.1
    have he := hb x List.mem_cons_self
    rw [clips_cons hab, if_pos (by omega), ih h.2.2 (by omega) fun y hy => hb y (List.mem_cons_of_mem _ hy)]
    unfold clip
    rw [show max x.lba a = x.lba by omega, show min x.en b = x.en by omega, cutE_self]
theorem clips_past {a b : Int} {l : List Ex} (h : Ends a l) : clips a b l = [] := by
  by_cases hab : a < b
  · induction l with
    | nil => exact clips_nil _ _
    | cons x r ih =>
      have he := h x List.mem_cons_self
      rw [clips_cons hab, if_neg (by omega), ih fun y hy => h y (List.mem_cons_of_mem _ hy)]
  · exact clips_none (by omega) _
theorem clips_ahead {f a b : Int} {l : List Ex} (h : Ok f l) (hb : b ≤ f) : clips a b l = [] := by
  by_cases hab : a < b
  · induction l generalizing f with
    | nil => exact clips_nil _ _
    | cons x r ih =>
      have hx := en_lt h.1
      have hf := h.2.1
      rw [clips_cons hab, if_neg (by omega), ih h.2.2 (by omega)]
  · exact clips_none (by omega) _
/-! ### One over another -/
def overF (l : List Ex) : Int → List Ex → List Ex
  | f, [] => clips f 1099511627776 l
  | f, x :: u => clips f x.lba l ++ x :: overF l x.en u
def overE (l u : List Ex) : List Ex := overF l 0 u
theorem tell_over {f g : Int} {l u : List Ex} (hl : Ok g l) (hu : Ok f u) (k : Int) : tell (overF l f u) k = if f ≤ k then (tell u k).or (tell l k) else none := by
  induction u generalizing f with
  | nil =>
    rw [overF, tell_clips hl]
    by_cases h1 : f ≤ k
    · by_cases h2 : k < 1099511627776
      · rw [if_pos ⟨h1, h2⟩, if_pos h1]; rfl
      · rw [if_neg (by omega), if_pos h1, tell_high hl (by omega)]; rfl
    · rw [if_neg (by omega), if_neg h1]
  | cons x u ih =>
    have hx := en_lt hu.1
    have hf := hu.2.1
    rw [overF, tell_append, tell_clips hl, tell, ih hu.2.2, tell]
    by_cases h1 : f ≤ k
    · rw [if_pos h1]
      by_cases h2 : k < x.lba
      · rw [if_pos ⟨h1, h2⟩, if_neg (by unfold has; omega), if_neg (by omega), if_neg (by unfold has; omega), tell_low hu.2.2 (by omega)]
        cases tell l k <;> rfl
      · rw [if_neg (by omega)]
        by_cases h3 : k < x.en
        · rw [if_pos (by unfold has; omega), if_pos (by unfold has; omega)]; rfl
        · rw [if_neg (by unfold has; omega), if_pos (by omega), if_neg (by unfold has; omega)]; rfl
    · rw [if_neg h1, if_neg (by omega), if_neg (by unfold has; omega), if_neg (by omega)]; rfl
theorem ok_over {f g : Int} {l u : List Ex} (hl : Ok g l) (hu : Ok f u) : Ok f (overF l f u) := by
  induction u generalizing f with
  | nil => exact ok_clips hl (by omega)
  | cons x u ih =>
    rw [overF]
    exact ok_append (ok_clips hl (by omega)) ⟨hu.1, Int.le_refl _, ih hu.2.2⟩ (ends_clips _ _ _) hu.2.1
def above (a : Int) (l : List Ex) : Nat := (l.filter fun x => decide (a < x.en)).length
theorem above_cons (a : Int) (x : Ex) (l : List Ex) : above a (x :: l) = (if a < x.en then 1 else 0) + above a l := by
  unfold above
  by_cases h : a < x.en
  · rw [List.filter_cons_of_pos (by simpa using h), if_pos h, List.length_cons]; omega
  · rw [List.filter_cons_of_neg (by simpa using h), if_neg h]; omega
theorem above_le (a : Int) (l : List Ex) : above a l ≤ l.length := List.length_filter_le _ _
theorem above_mono {a b : Int} (h : a ≤ b) (l : List Ex) : above b l ≤ above a l := by
  induction l with
  | nil => exact Nat.le_refl _
  | cons x r ih =>
    rw [above_cons, above_cons]
    by_cases h1 : b < x.en
    · rw [if_pos h1, if_pos (by omega)]; omega
    · rw [if_neg h1]; omega
theorem above_all {f a : Int} {l : List Ex} (h : Ok f l) (ha : a ≤ f) : above a l = l.length := by
  induction l generalizing f with
  | nil => rfl
  | cons x r ih =>
    have hx := en_lt h.1
    have hf := h.2.1
    rw [above_cons, if_pos (by omega), ih h.2.2 (by omega), List.length_cons]; omega
theorem clips_above {f a b : Int} {l : List Ex} (h : Ok f l) (hab : a ≤ b) : (clips a b l).length + above b l ≤ above a l + 1 := by
  by_cases hlt : a < b
  · induction l generalizing f with
    | nil => rw [clips_nil]; exact Nat.le_succ _
    | cons x r ih =>
      have hx := en_lt h.1
      have ihr := ih h.2.2
      rw [clips_cons hlt, above_cons, above_cons]
      by_cases h1 : a < x.en
      · rw [if_pos h1]
        by_cases h2 : x.lba < b
        · rw [if_pos ⟨h1, h2⟩, List.length_cons]
          by_cases h3 : b < x.en
          · rw [if_pos h3, clips_ahead h.2.2 (by omega), above_all h.2.2 (by omega), above_all h.2.2 (by omega), List.length_nil]; omega
          · rw [if_neg h3]; omega
        · rw [if_neg (by omega)]
          split <;> omega
      · rw [if_neg h1, if_neg (by omega), if_neg (by omega)]; omega
  · rw [clips_none (by omega), List.length_nil]
    have := above_mono hab l
    omega
theorem over_len {f g : Int} {l u : List Ex} (hl : Ok g l) (hu : Ok f u) : (overF l f u).length ≤ above f l + 2 * u.length := by
  induction u generalizing f with
  | nil =>
    rw [overF]
    unfold clips
    cases decide (f < 1099511627776)
    · exact Nat.zero_le _
    · rw [cond_true, List.length_map]
      refine Nat.le_trans ?_ (Nat.le_add_right _ _)
      unfold above
      rw [← List.countP_eq_length_filter, ← List.countP_eq_length_filter]
      refine List.countP_mono_left fun x _ hx => ?_
      rw [touch_iff] at hx
      exact decide_eq_true hx.1
  | cons x u ih =>
    have h1 := ih hu.2.2
    have h2 := clips_above (b := x.lba) hl hu.2.1
    have h3 := above_mono (Int.le_of_lt (en_lt hu.1)) l
    rw [overF, List.length_append, List.length_cons, List.length_cons]
    omega
theorem overE_len {g : Int} {l u : List Ex} (hl : Ok g l) (hu : Ok 0 u) : (overE l u).length ≤ l.length + 2 * u.length := by
  have h1 := over_len hl hu
  have h2 := above_le 0 l
  unfold overE
  omega
theorem over_past {f : Int} {l u : List Ex} (hl : Ends f l) (hu : Ok f u) : overF l f u = u := by
  induction u generalizing f with
  | nil => exact clips_past hl
  | cons x u ih =>
    have hx := en_lt hu.1
    have hf := hu.2.1
    rw [overF, clips_past hl, ih (fun y hy => by have := hl y hy; omega) hu.2.2]; rfl
theorem over_behind {f g : Int} {a b : List Ex} (ha : Ok f a) (hf : 0 ≤ f) (hb : Ok g b) (he : Ends g a) : overE a b = a ++ b := by
  unfold overE
  cases b with
  | nil => rw [overF, clips_all ha hf ha.ends (by omega), List.append_nil]
  | cons x u =>
    have hx := en_lt hb.1
    have hg := hb.2.1
    have hee : Ends x.lba a := fun y hy => by have := he y hy; omega
    have h0 := hb.1.1
    rw [overF]
    by_cases h : 0 < x.lba
    · rw [clips_all ha hf hee h, over_past (fun y hy => by have := hee y hy; omega) hb.2.2]
    · have hn : a = [] := by
        cases a with
        | nil => rfl
        | cons y r => have h1 := en_lt ha.1; have h2 := ha.2.1; have h3 := hee y List.mem_cons_self; omega
      subst hn
      rw [clips_nil, over_past (fun y hy => by cases hy) hb.2.2]
theorem over_ahead {f g : Int} {a b : List Ex} (ha : Ok g a) (hb : Ok f b) (he : Ends g b) (hfg : f ≤ g) (hf : f < 1099511627776 ∨ a = []) : overF a f b = b ++ a := by
  induction b generalizing f with
  | nil =>
    rw [overF, List.nil_append]
    rcases hf with hf | rfl
    · exact clips_all ha hfg ha.ends hf
    · exact clips_nil _ _
  | cons x u ih =>
    have hx := en_lt hb.1
    have hxg := he x List.mem_cons_self
    rw [overF, clips_ahead ha (by omega), ih hb.2.2 (fun y hy => he y (List.mem_cons_of_mem _ hy)) hxg ?_]; rfl
    cases a with
    | nil => exact .inr rfl
    | cons y r => left; have h1 := ha.2.1; have h2 := en_lt ha.1; have h3 := en_le ha.1; omega
/-! ### Joined -/
def goB (x y : Ex) : Bool := (y.lba == x.en && (y.ver == x.ver && y.zone == x.zone)) && (x.zone == -1 || y.off == x.off + x.n * 16)
theorem goB_iff {x y : Ex} : goB x y = true ↔ (y.lba = x.en ∧ y.ver = x.ver ∧ y.zone = x.zone) ∧ (x.zone = -1 ∨ y.off = x.off + x.n * 16) := by
  unfold goB; simp only [Bool.and_eq_true, Bool.or_eq_true, beq_iff_eq]
def grow (x : Ex) (m : Int) : Ex := ⟨x.lba, x.n + m, x.ver, x.zone, x.off⟩
def jn : Ex → List Ex → List Ex
  | z, [] => [z]
  | z, x :: r => bif goB z x then jn (grow z x.n) r else z :: jn x r
def joinE : List Ex → List Ex
  | [] => []
  | x :: r => jn x r
def pushE : List Ex → Ex → List Ex
  | [], x => [x]
  | z :: r, x => match r with
    | [] => bif goB z x then [grow z x.n] else [z, x]
    | y :: s => z :: pushE (y :: s) x
theorem pushE_snoc (a : List Ex) (z x : Ex) : pushE (a ++ [z]) x = bif goB z x then a ++ [grow z x.n] else a ++ [z] ++ [x] := by
  induction a with
  | nil => rw [List.nil_append, pushE]; cases goB z x <;> rfl
  | cons y a ih =>
    rw [List.cons_append]
    rcases h : a ++ [z] with _ | ⟨w, s⟩
    · simp at h
    · rw [pushE, ← h, ih]; cases goB z x <;> rfl
def joinF (acc : List Ex) (l : List Ex) : List Ex := l.foldl pushE acc
theorem joinF_app (acc a b : List Ex) : joinF acc (a ++ b) = joinF (joinF acc a) b := by unfold joinF; rw [List.foldl_append]
theorem joinF_jn (a : List Ex) (z : Ex) (r : List Ex) : joinF (a ++ [z]) r = a ++ jn z r := by
  induction r generalizing a z with
  | nil => rfl
  | cons x r ih =>
    show joinF (pushE (a ++ [z]) x) r = _
    rw [pushE_snoc, jn]
    cases goB z x
    · simp only [cond_false]
      rw [ih, List.append_assoc]; rfl
    · simp only [cond_true]
      rw [ih]
theorem joinF_eq (l : List Ex) : joinF [] l = joinE l := by
  cases l with
  | nil => rfl
  | cons x r => exact joinF_jn [] x r
theorem grow_en {z x : Ex} (h : goB z x = true) : (grow z x.n).en = x.en := by
  have := (goB_iff.1 h).1.1
  show z.lba + (z.n + x.n) = _
  unfold Ex.en at *; omega
theorem grow_may {z x : Ex} (h : goB z x = true) (hz : MayX z) (hx : MayX x) : MayX (grow z x.n) := by
  obtain ⟨⟨g1, g2, g3⟩, g4⟩ := goB_iff.1 h
  obtain ⟨m1, m2, m3, m4, m5⟩ := hz
  obtain ⟨k1, k2, k3, k4, k5⟩ := hx
  unfold Ex.en at g1
  refine ⟨m1, by show 1 ≤ z.n + x.n; omega, by show z.lba + (z.n + x.n) ≤ _; omega, m4, ?_⟩
  show z.zone = -1 ∧ z.off = 0 ∨ 0 ≤ z.zone ∧ z.zone ≤ _ ∧ 0 ≤ z.off ∧ z.off + 16 * (z.n + x.n) ≤ _
  rcases m5 with m5 | m5
  · exact .inl m5
  · right
    rcases k5 with k5 | k5
    · omega
    · rcases g4 with g4 | g4 <;> omega
theorem jn_ok {f : Int} {z : Ex} {r : List Ex} (h : Ok f (z :: r)) : Ok f (jn z r) := by
  induction r generalizing f z with
  | nil => exact h
  | cons x r ih =>
    rw [jn]
    rcases e : goB z x
    · exact ⟨h.1, h.2.1, ih h.2.2⟩
    · refine ih ⟨grow_may e h.1 h.2.2.1, h.2.1, ?_⟩
      rw [grow_en e]; exact h.2.2.2.2
theorem grow_tell {z x : Ex} (h : goB z x = true) (hz : MayX z) (hx : MayX x) (r : List Ex) (k : Int) : tell (grow z x.n :: r) k = tell (z :: x :: r) k := by
  obtain ⟨⟨g1, g2, g3⟩, g4⟩ := goB_iff.1 h
  have e1 := en_lt hz
  have e2 := en_lt hx
  have e3 := grow_en h
  have e4 : z.en = z.lba + z.n := rfl
  have hb : blk (grow z x.n) k = blk z k := rfl
  rw [tell, tell, tell, hb]
  by_cases h1 : has z k
  · rw [if_pos h1, if_pos (by unfold has at *; rw [e3]; show z.lba ≤ k ∧ _; omega)]
  · rw [if_neg h1]
    by_cases h2 : has x k
    · rw [if_pos h2, if_pos (by unfold has at *; rw [e3]; show z.lba ≤ k ∧ _; omega)]
      unfold blk
      rw [g2, g3]
      by_cases h3 : z.zone = -1
      · simp [h3]
      · simp only [if_neg h3, Option.some.injEq, Prod.mk.injEq, true_and]
        rcases g4 with g4 | g4
        · exact absurd g4 h3
        · omega
    · rw [if_neg h2, if_neg (by unfold has at *; rw [e3]; show ¬ (z.lba ≤ k ∧ _); omega)]
theorem jn_tell {f : Int} {z : Ex} {r : List Ex} (h : Ok f (z :: r)) (k : Int) : tell (jn z r) k = tell (z :: r) k := by
  induction r generalizing f z with
  | nil => rfl
  | cons x r ih =>
    rw [jn]
    rcases e : goB z x
    · show tell (z :: jn x r) k = _
      rw [tell, tell, ih h.2.2]
    · show tell (jn (grow z x.n) r) k = _
      have hg : Ok f (grow z x.n :: r) := ⟨grow_may e h.1 h.2.2.1, h.2.1, by rw [grow_en e]; exact h.2.2.2.2⟩
      rw [ih hg, grow_tell e h.1 h.2.2.1]
theorem jn_len (z : Ex) (r : List Ex) : (jn z r).length ≤ r.length + 1 := by
  induction r generalizing z with
  | nil => exact Nat.le_refl _
  | cons x r ih =>
    rw [jn]
    cases goB z x
    · exact Nat.succ_le_succ (ih x)
    · exact Nat.le_trans (ih _) (Nat.le_succ _)
/-- No two that go on. -/
def Can : List Ex → Prop
  | [] => True
  | x :: r => (∀ y, r.head? = some y → goB x y = false) ∧ Can r
theorem jn_can (z : Ex) (r : List Ex) : Can (jn z r) ∧ ∃ h t, jn z r = h :: t ∧ h.lba = z.lba ∧ h.ver = z.ver ∧ h.zone = z.zone ∧ h.off = z.off := by
  induction r generalizing z with
  | nil => exact ⟨⟨(fun y hy => by cases hy), trivial⟩, z, [], rfl, rfl, rfl, rfl, rfl⟩
  | cons x r ih =>
    rw [jn]
    rcases e : goB z x
    · obtain ⟨h1, h, t, h2, h3, h4, h5, h6⟩ := ih x
      refine ⟨⟨fun y hy => ?_, h1⟩, z, _, rfl, rfl, rfl, rfl, rfl⟩
      rw [h2] at hy
      injection hy with hy
      subst hy
      rw [← e]
      unfold goB
      rw [h3, h4, h5, h6]
    · obtain ⟨h1, h, t, h2, h3⟩ := ih (grow z x.n)
      exact ⟨h1, h, t, h2, h3⟩
theorem join_ok {f : Int} {l : List Ex} (h : Ok f l) : Ok f (joinE l) := by cases l with | nil => trivial | cons x r => exact jn_ok h
theorem join_tell {f : Int} {l : List Ex} (h : Ok f l) (k : Int) : tell (joinE l) k = tell l k := by cases l with | nil => rfl | cons x r => exact jn_tell h k
theorem join_len (l : List Ex) : (joinE l).length ≤ l.length := by cases l with | nil => exact Nat.le_refl _ | cons x r => exact jn_len x r
theorem join_can (l : List Ex) : Can (joinE l) := by cases l with | nil => trivial | cons x r => exact (jn_can x r).1
theorem can_step {f g : Int} {x y : Ex} {l m : List Ex} (hl : Ok f (x :: l)) (_hm : Ok g (y :: m)) (cl : Can (x :: l)) (ht : ∀ k, tell (x :: l) k = tell (y :: m) k)
    (h1 : x.lba = y.lba) (h2 : x.ver = y.ver) (h3 : x.zone = y.zone) (h4 : x.off = y.off) : y.n ≤ x.n := by
  rcases Int.lt_or_le x.n y.n with hlt | h
  · exfalso
    have k1 := ht x.en
    have ex : x.en = x.lba + x.n := rfl
    have ey : y.en = y.lba + y.n := rfl
    have hx := hl.1.2.1
    rw [tell, if_neg (by unfold has; omega), tell, if_pos (by unfold has; omega)] at k1
    cases l with
    | nil => cases k1
    | cons z r =>
      have hz := hl.2.2
      have hzl := hz.2.1
      rcases Int.lt_or_le x.en z.lba with hgt | hle
      · rw [tell_low (show Ok z.lba (z :: r) from ⟨hz.1, Int.le_refl _, hz.2.2⟩) hgt] at k1
        cases k1
      · have hze : z.lba = x.en := by omega
        rw [← hze, tell_head hz.1] at k1
        injection k1 with k1
        unfold blk at k1
        simp only [Prod.mk.injEq] at k1
        obtain ⟨q1, q2, q3⟩ := k1
        have hgo : goB x z = true := by
          rw [goB_iff]
          refine ⟨⟨hze, by omega, by omega⟩, ?_⟩
          by_cases hz1 : x.zone = -1
          · exact .inl hz1
          · right
            rw [if_neg (by omega), if_neg (by omega)] at q3
            omega
        rw [cl.1 z rfl] at hgo
        cases hgo
  · exact h
theorem can_eq {f g : Int} {l m : List Ex} (hl : Ok f l) (hm : Ok g m) (cl : Can l) (cm : Can m) (ht : ∀ k, tell l k = tell m k) : l = m := by
  induction l generalizing f g m with
  | nil =>
    cases m with
    | nil => rfl
    | cons y m => have := ht y.lba; rw [tell_head hm.1] at this; cases this
  | cons x l ih =>
    cases m with
    | nil => have := ht x.lba; rw [tell_head hl.1] at this; cases this
    | cons y m =>
      have hxy : x.lba = y.lba := by
        rcases Int.lt_trichotomy x.lba y.lba with h | h | h
        · have := ht x.lba
          rw [tell_head hl.1, tell_low (show Ok y.lba (y :: m) from ⟨hm.1, Int.le_refl _, hm.2.2⟩) h] at this; cases this
        · exact h
        · have := ht y.lba
          rw [tell_head hm.1, tell_low (show Ok x.lba (x :: l) from ⟨hl.1, Int.le_refl _, hl.2.2⟩) h] at this; cases this
      have hb := ht x.lba
      rw [tell_head hl.1, hxy, tell_head hm.1] at hb
      injection hb with hb
      unfold blk at hb
      simp only [Prod.mk.injEq] at hb
      obtain ⟨q1, q2, q3⟩ := hb
      have hoff : x.off = y.off := by
        by_cases hz : x.zone = -1
        · rw [may_zone hl.1 hz, may_zone hm.1 (by omega)]
        · rw [if_neg hz, if_neg (by omega)] at q3
          omega
      have n1 := can_step hl hm cl ht hxy q1 q2 hoff
      have n2 := can_step hm hl cm (fun k => (ht k).symm) hxy.symm q1.symm q2.symm hoff.symm
      obtain rfl : x = y := ex_ext hxy (by omega) q1 q2 hoff
      rw [ih hl.2.2 hm.2.2 cl.2 cm.2 fun k => ?_]
      have hk := ht k
      rw [tell, tell] at hk
      by_cases hh : has x k
      · have : k < x.en := hh.2
        rw [tell_low hl.2.2 this, tell_low hm.2.2 this]
      · rw [if_neg hh, if_neg hh] at hk
        exact hk
theorem join_eq {f g : Int} {l m : List Ex} (hl : Ok f l) (hm : Ok g m) (ht : ∀ k, tell l k = tell m k) : joinE l = joinE m :=
  can_eq (join_ok hl) (join_ok hm) (join_can l) (join_can m) fun k => by rw [join_tell hl, join_tell hm, ht]
theorem join_join {f : Int} {l : List Ex} (h : Ok f l) : joinE (joinE l) = joinE l := join_eq (join_ok h) h (join_tell h)
/-! ### Stacked, put, cut, gaps -/
def stackP (e : List Ex) : List Ex := if h : e.length ≤ 1 then e else overE (stackP (e.take (e.length / 2))) (stackP (e.drop (e.length / 2)))
termination_by e.length
decreasing_by
  · rw [List.length_take]; omega
  · rw [List.length_drop]; omega
theorem stackP_one {e : List Ex} (h : e.length ≤ 1) : stackP e = e := by rw [stackP, dif_pos h]
theorem stackP_many {e : List Ex} (h : ¬ e.length ≤ 1) : stackP e = overE (stackP (e.take (e.length / 2))) (stackP (e.drop (e.length / 2))) := by rw [stackP, dif_neg h]
theorem sq_split (n : Nat) (h : 2 ≤ n) : (n / 2) * (n / 2) + 2 * ((n - n / 2) * (n - n / 2)) ≤ n * n := by
  obtain ⟨a, ha⟩ : ∃ a, a = n / 2 := ⟨_, rfl⟩
  rw [← ha]
  rcases Nat.mod_two_eq_zero_or_one n with h0 | h0
  · have : n = 2 * a := by omega
    subst this
    rw [show 2 * a - a = a by omega, show 2 * a * (2 * a) = 4 * (a * a) by rw [Nat.mul_mul_mul_comm]]
    omega
  · have : n = 2 * a + 1 := by omega
    subst this
    obtain ⟨b, rfl⟩ : ∃ b, a = b + 1 := ⟨a - 1, by omega⟩
    rw [show 2 * (b + 1) + 1 - (b + 1) = b + 2 by omega]
    simp only [Nat.add_mul, Nat.mul_add]
    have : 0 ≤ b * b := Nat.zero_le _
    have e1 : 2 * b * (2 * b) = 4 * (b * b) := by rw [Nat.mul_mul_mul_comm]
    omega
theorem stack_ok {n : Nat} : ∀ {e : List Ex}, e.length ≤ n → (∀ x ∈ e, MayX x) → Ok 0 (stackP e) ∧ (stackP e).length ≤ e.length * e.length := by
  induction n with
  | zero =>
    intro e hn h
    have : e = [] := List.eq_nil_of_length_eq_zero (by omega)
    subst this
    rw [stackP_one (by simp)]
    exact ⟨trivial, Nat.le_refl _⟩
  | succ n ih =>
    intro e hn h
    by_cases h1 : e.length ≤ 1
    · rw [stackP_one h1]
      match e, h1 with
      | [], _ => exact ⟨trivial, Nat.le_refl _⟩
      | [x], _ => exact ⟨⟨h x List.mem_cons_self, (h x List.mem_cons_self).1, trivial⟩, Nat.le_refl _⟩
    · obtain ⟨o1, l1⟩ := ih (e := e.take (e.length / 2)) (by rw [List.length_take]; omega) fun x hx => h x (List.mem_of_mem_take hx)
      obtain ⟨o2, l2⟩ := ih (e := e.drop (e.length / 2)) (by rw [List.length_drop]; omega) fun x hx => h x (List.mem_of_mem_drop hx)
      rw [stackP_many h1]
      refine ⟨ok_over o1 o2, Nat.le_trans (overE_len o1 o2) ?_⟩
      rw [List.length_take, Nat.min_eq_left (by omega)] at l1
      rw [List.length_drop] at l2
      have := sq_split e.length (by omega)
      omega
theorem stack_sorted {n : Nat} : ∀ {e : List Ex} {f : Int}, e.length ≤ n → Ok f e → 0 ≤ f → stackP e = e := by
  induction n with
  | zero => intro e f hn _ _; exact stackP_one (by omega)
  | succ n ih =>
    intro e f hn h hf
    by_cases h1 : e.length ≤ 1
    · exact stackP_one h1
    · have he : e.take (e.length / 2) ++ e.drop (e.length / 2) = e := List.take_append_drop _ _
      have h' := h
      rw [← he] at h'
      obtain ⟨o1, g, o2, en, hg⟩ := ok_split h'
      rw [stackP_many h1, ih (by rw [List.length_take]; omega) o1 hf, ih (by rw [List.length_drop]; omega) o2 (by omega), over_behind o1 hf o2 en, he]
theorem stack_rev {n : Nat} : ∀ {e : List Ex} {f : Int}, e.length ≤ n → Ok f e → 0 ≤ f → stackP e.reverse = e := by
  induction n with
  | zero =>
    intro e f hn _ _
    have : e = [] := List.eq_nil_of_length_eq_zero (by omega)
    subst this
    exact stackP_one (by simp)
  | succ n ih =>
    intro e f hn h hf
    by_cases h1 : e.length ≤ 1
    · rw [stackP_one (by simpa using h1)]
      match e, h1 with
      | [], _ => rfl
      | [x], _ => rfl
    · obtain ⟨m, hm⟩ : ∃ m, m = e.length - e.length / 2 := ⟨_, rfl⟩
      have he : e.take m ++ e.drop m = e := List.take_append_drop _ _
      have h' := h
      rw [← he] at h'
      obtain ⟨o1, g, o2, en, hg⟩ := ok_split h'
      have t1 : e.reverse.take (e.length / 2) = (e.drop m).reverse := by
        rw [List.take_reverse]; congr 2; omega
      have t2 : e.reverse.drop (e.length / 2) = (e.take m).reverse := by
        rw [List.drop_reverse, hm]
      rw [stackP_many (by simpa using h1), List.length_reverse, t1, t2, ih (by rw [List.length_drop]; omega) o2 (by omega), ih (by rw [List.length_take]; omega) o1 hf]
      have hov := over_ahead (f := 0) o2 (o1.low hf) en (by omega) (.inl (by omega))
      unfold overE
      rw [hov, he]
def putE (l e : List Ex) : List Ex := joinE (overE l (stackP e))
theorem put_ok {f : Int} {l e : List Ex} (hl : Ok f l) (he : ∀ x ∈ e, MayX x) : Ok 0 (putE l e) := join_ok (ok_over hl (stack_ok (Nat.le_refl _) he).1)
theorem put_tell {f : Int} {l e : List Ex} (hl : Ok f l) (he : Ok 0 e) (k : Int) : tell (putE l e) k = (tell e k).or (tell l k) := by
  unfold putE
  rw [stack_sorted (Nat.le_refl _) he (Int.le_refl _), join_tell (show Ok 0 (overE l e) from ok_over hl he), overE, tell_over hl he]
  by_cases h : 0 ≤ k
  · rw [if_pos h]
  · rw [if_neg h, tell_low he (by omega)]
    rw [Option.none_or]
    rcases hl2 : tell l k with _ | v
    · rfl
    · exfalso
      have hl0 : Ok 0 l := by
        cases l with
        | nil => trivial
        | cons x r => exact ⟨hl.1, hl.1.1, hl.2.2⟩
      rw [tell_low hl0 (by omega)] at hl2
      cases hl2
theorem put_len {f : Int} {l e : List Ex} (hl : Ok f l) (he : Ok 0 e) : (putE l e).length ≤ l.length + 2 * e.length := by
  unfold putE
  rw [stack_sorted (Nat.le_refl _) he (Int.le_refl _)]
  exact Nat.le_trans (join_len _) (overE_len hl he)
theorem ok_zero {f : Int} {l : List Ex} (hl : Ok f l) : Ok 0 l := by
  cases l with
  | nil => trivial
  | cons x r => exact ⟨hl.1, hl.1.1, hl.2.2⟩
theorem put_rev {l e : List Ex} (he : Ok 0 e) : putE l e.reverse = putE l e := by
  unfold putE
  rw [stack_rev (Nat.le_refl _) he (Int.le_refl _), stack_sorted (Nat.le_refl _) he (Int.le_refl _)]
def rangeB (a n : Int) : Bool := decide (0 ≤ a) && (decide (1 ≤ n) && decide (a ≤ 1099511627776 - n))
theorem rangeB_iff {a n : Int} : rangeB a n = true ↔ 0 ≤ a ∧ 1 ≤ n ∧ a + n ≤ 1099511627776 := by
  unfold rangeB; simp only [Bool.and_eq_true, decide_eq_true_eq]; omega
def cutL (l : List Ex) (a n : Int) : List Ex := clips 0 a l ++ clips (a + n) 1099511627776 l
theorem cut_ok {f a n : Int} {l : List Ex} (hl : Ok f l) (ha : 0 ≤ a) (hn : 1 ≤ n) : Ok 0 (cutL l a n) :=
  ok_append (g := a) (ok_clips hl (by omega)) (ok_clips hl (by omega)) (ends_clips _ _ _) ha
theorem cut_tell {f a n : Int} {l : List Ex} (hl : Ok f l) (ha : 0 ≤ a) (hn : 1 ≤ n) (k : Int) : tell (cutL l a n) k = if a ≤ k ∧ k < a + n then none else tell l k := by
  unfold cutL
  rw [tell_append, tell_clips hl, tell_clips hl]
  by_cases h0 : 0 ≤ k
  · by_cases h1 : k < a
    · rw [if_pos ⟨h0, h1⟩, if_neg (by omega), if_neg (by omega)]; cases tell l k <;> rfl
    · rw [if_neg (by omega)]
      by_cases h2 : k < a + n
      · rw [if_neg (by omega), if_pos ⟨by omega, h2⟩]; rfl
      · by_cases h3 : k < 1099511627776
        · rw [if_pos ⟨by omega, h3⟩, if_neg (by omega)]; rfl
        · rw [if_neg (by omega), if_neg (by omega), tell_high hl (by omega)]; rfl
  · rw [if_neg (by omega), if_neg (by omega), if_neg (by omega), tell_low (ok_zero hl) (by omega)]; rfl
theorem cut_len {f a n : Int} {l : List Ex} (hl : Ok f l) (ha : 0 ≤ a) (hn : 1 ≤ n) : (cutL l a n).length ≤ l.length + 1 := by
  unfold cutL
  rw [List.length_append]
  have h1 := clips_above (a := 0) (b := a) hl ha
  have h2 := above_mono (a := a) (b := a + n) (by omega) l
  have h3 := above_le 0 l
  have h4 : (clips (a + n) 1099511627776 l).length ≤ above (a + n) l := by
    unfold clips
    cases decide (a + n < 1099511627776)
    · exact Nat.zero_le _
    · rw [cond_true, List.length_map]
      unfold above
      rw [← List.countP_eq_length_filter, ← List.countP_eq_length_filter]
      refine List.countP_mono_left fun x _ hx => ?_
      rw [touch_iff] at hx
      exact decide_eq_true hx.1
  omega
def gap (f t : Int) : List Ex := bif decide (f < t) then [⟨f, t - f, 0, -1, 0⟩] else []
def gapF (t : Int) : Int → List Ex → List Ex
  | f, [] => gap f t
  | f, x :: r => gap f x.lba ++ gapF t x.en r
theorem gap_tell (f t k : Int) : tell (gap f t) k = if f ≤ k ∧ k < t then some (0, -1, 0) else none := by
  unfold gap
  by_cases h : f < t
  · rw [decide_eq_true h, cond_true, tell, tell]
    have e : (⟨f, t - f, 0, -1, 0⟩ : Ex).en = t := by show f + (t - f) = t; omega
    have hh : has (⟨f, t - f, 0, -1, 0⟩ : Ex) k ↔ f ≤ k ∧ k < t := by unfold has; rw [e]
    by_cases h2 : f ≤ k ∧ k < t
    · rw [if_pos h2, if_pos (hh.2 h2)]; rfl
    · rw [if_neg h2, if_neg (fun q => h2 (hh.1 q))]
  · rw [decide_eq_false h, cond_false, if_neg (by omega)]; rfl
theorem gap_ok {f t : Int} (h0 : 0 ≤ f) (h1 : t ≤ 1099511627776) : Ok f (gap f t) ∧ Ends t (gap f t) := by
  unfold gap
  by_cases h : f < t
  · rw [decide_eq_true h, cond_true]
    refine ⟨⟨⟨h0, by show 1 ≤ t - f; omega, by show f + (t - f) ≤ _; omega, Int.le_refl _, .inl ⟨rfl, rfl⟩⟩, Int.le_refl _, trivial⟩, fun x hx => ?_⟩
    obtain rfl := List.mem_singleton.1 hx
    show f + (t - f) ≤ t
    omega
  · rw [decide_eq_false h, cond_false]
    exact ⟨trivial, fun x hx => by cases hx⟩
theorem gap_len (f t : Int) : (gap f t).length ≤ 1 := by unfold gap; cases decide (f < t) <;> simp
theorem gaps_len (t f : Int) (p : List Ex) : (gapF t f p).length ≤ p.length + 1 := by
  induction p generalizing f with
  | nil => exact gap_len f t
  | cons x r ih => rw [gapF, List.length_append, List.length_cons]; have := gap_len f x.lba; have := ih x.en; omega
theorem gaps_ok {f t : Int} {p : List Ex} (hp : Ok f p) (h0 : 0 ≤ f) (ht : t ≤ 1099511627776) : Ok f (gapF t f p) := by
  induction p generalizing f with
  | nil => exact (gap_ok h0 ht).1
  | cons x r ih =>
    have hx := en_lt hp.1
    have he := en_le hp.1
    have h0x := hp.1.1
    have hg := gap_ok (f := f) (t := x.lba) h0 (by omega)
    rw [gapF]
    exact ok_append hg.1 ((ih hp.2.2 (by omega)).low (Int.le_of_lt hx)) hg.2 hp.2.1
theorem gaps_tell {f t : Int} {p : List Ex} (hp : Ok f p) (he : Ends t p) (k : Int) : tell (gapF t f p) k = if (f ≤ k ∧ k < t) ∧ tell p k = none then some (0, -1, 0) else none := by
  induction p generalizing f with
  | nil => rw [gapF, gap_tell]; simp [tell]
  | cons x r ih =>
    have hx := en_lt hp.1
    have hf := hp.2.1
    have hxt := he x List.mem_cons_self
    rw [gapF, tell_append, gap_tell, ih hp.2.2 (fun y hy => he y (List.mem_cons_of_mem _ hy)), tell]
    by_cases h1 : f ≤ k ∧ k < x.lba
    · have hn : ¬ has x k := by unfold has; omega
      rw [if_pos h1, if_neg (fun h => by have := h.1; omega), if_neg hn, tell_low hp.2.2 (by omega), if_pos ⟨by omega, rfl⟩]; rfl
    · rw [if_neg h1, Option.none_or]
      by_cases h2 : has x k
      · rw [if_pos h2, if_neg (by unfold has at h2; omega), if_neg (by simp)]
      · rw [if_neg h2]
        by_cases h3 : x.en ≤ k ∧ k < t
        · by_cases h4 : tell r k = none
          · rw [if_pos ⟨h3, h4⟩, if_pos ⟨by omega, h4⟩]
          · rw [if_neg (fun h => h4 h.2), if_neg (fun h => h4 h.2)]
        · rw [if_neg (fun h => h3 h.1), if_neg (fun h => h3 (by unfold has at h2; have := h.1; omega))]
/-! ### How many -/
def manyE : List Ex → Int
  | [] => 0
  | x :: r => x.n + manyE r
def cnt (p : Int → Bool) : Nat → Nat
  | 0 => 0
  | n + 1 => cnt p n + (bif p (n : Int) then 1 else 0)
theorem cnt_congr {p q : Int → Bool} {N : Nat} (h : ∀ k : Nat, k < N → p k = q k) : cnt p N = cnt q N := by
  induction N with
  | zero => rfl
  | succ n ih => rw [cnt, cnt, ih fun k hk => h k (by omega), h n (by omega)]
theorem cnt_or {p q : Int → Bool} {N : Nat} (h : ∀ k : Nat, k < N → (p k && q k) = false) : cnt (fun k => p k || q k) N = cnt p N + cnt q N := by
  induction N with
  | zero => rfl
  | succ n ih =>
    have h1 := h n (by omega)
    rw [cnt, cnt, cnt, ih fun k hk => h k (by omega)]
    cases hp : p (n : Int) <;> cases hq : q (n : Int) <;> simp_all <;> omega
theorem cnt_range {a b : Int} {N : Nat} (ha : 0 ≤ a) (hab : a ≤ b) (hb : b ≤ N) : (cnt (fun k => decide (a ≤ k ∧ k < b)) N : Int) = b - a := by
  induction N generalizing b with
  | zero => have : a = b := by omega
            subst this; simp [cnt]
  | succ n ih =>
    rw [cnt]
    by_cases h : b ≤ n
    · rw [decide_eq_false (by omega), cond_false, Nat.add_zero]
      exact ih hab h
    · have hbn : b = n + 1 := by omega
      by_cases h2 : a = b
      · rw [decide_eq_false (by omega), cond_false, Nat.add_zero]
        rw [cnt_congr (q := fun k => decide (a ≤ k ∧ k < (n : Int))) fun k hk => by rw [decide_eq_decide]; omega]
        have : cnt (fun k => decide (a ≤ k ∧ k < (n : Int))) n = cnt (fun _ => false) n := cnt_congr fun k hk => decide_eq_false (by omega)
        rw [this]
        have hz : ∀ m, cnt (fun _ => false) m = 0 := fun m => by induction m with | zero => rfl | succ m ihm => rw [cnt, ihm]; rfl
        rw [hz]; omega
      · rw [decide_eq_true (by omega), cond_true]
        rw [cnt_congr (q := fun k => decide (a ≤ k ∧ k < (n : Int))) fun k hk => by rw [decide_eq_decide]; omega]
        have := ih (b := n) (by omega) (Int.le_refl _)
        omega
theorem cnt_zero (N : Nat) : cnt (fun _ => false) N = 0 := by induction N with | zero => rfl | succ m ihm => rw [cnt, ihm]; rfl
theorem many_cnt {f : Int} {l : List Ex} {N : Nat} (h : Ok f l) (he : Ends N l) : manyE l = cnt (fun k => (tell l k).isSome) N := by
  induction l generalizing f with
  | nil => show (0 : Int) = _; rw [show (fun k => (tell [] k).isSome) = fun _ => false from rfl, cnt_zero]; rfl
  | cons x r ih =>
    have hx := en_lt h.1
    have h0 := h.1.1
    have hN := he x List.mem_cons_self
    rw [manyE, ih h.2.2 fun y hy => he y (List.mem_cons_of_mem _ hy)]
    have e1 : cnt (fun k => (tell (x :: r) k).isSome) N = cnt (fun k => decide (x.lba ≤ k ∧ k < x.en) || (tell r k).isSome) N := cnt_congr fun k _ => by
      rw [tell]
      by_cases hk : has x k
      · rw [if_pos hk, decide_eq_true (show x.lba ≤ (k : Int) ∧ (k : Int) < x.en from hk)]; rfl
      · rw [if_neg hk, decide_eq_false (show ¬ (x.lba ≤ (k : Int) ∧ (k : Int) < x.en) from hk)]; rfl
    rw [e1, cnt_or fun k _ => ?_]
    · have := cnt_range h0 (Int.le_of_lt hx) hN
      have e : x.en = x.lba + x.n := rfl
      omega
    · by_cases hk : (k : Int) < x.en
      · rw [tell_low h.2.2 hk]; simp
      · rw [decide_eq_false (by omega)]; rfl
theorem many_of {f g : Int} {l m : List Ex} (hl : Ok f l) (hm : Ok g m) (h : ∀ k : Int, 0 ≤ k → (tell l k).isSome = (tell m k).isSome) : manyE l = manyE m := by
  rw [many_cnt (N := 1099511627776) hl hl.ends, many_cnt (N := 1099511627776) hm hm.ends, cnt_congr (q := fun k => (tell m k).isSome) fun k _ => h k (by omega)]
theorem many_add {f g e : Int} {l m r : List Ex} (hl : Ok f l) (hm : Ok g m) (hr : Ok e r) (h : ∀ k : Int, 0 ≤ k → (tell r k).isSome = ((tell l k).isSome || (tell m k).isSome) ∧ ((tell l k).isSome && (tell m k).isSome) = false) : manyE l + manyE m = manyE r := by
  rw [many_cnt (N := 1099511627776) hl hl.ends, many_cnt (N := 1099511627776) hm hm.ends, many_cnt (N := 1099511627776) hr hr.ends, cnt_congr (p := fun k => (tell r k).isSome) (q := fun k => (tell l k).isSome || (tell m k).isSome) fun k _ => (h k (by omega)).1, cnt_or fun k _ => (h k (by omega)).2]
  omega
theorem many_range {f a n : Int} {l : List Ex} (hl : Ok f l) (ha : 0 ≤ a) (hn : 1 ≤ n) (hb : a + n ≤ 1099511627776) (h : ∀ k : Int, 0 ≤ k → (tell l k).isSome = decide (a ≤ k ∧ k < a + n)) : manyE l = n := by
  rw [many_cnt (N := 1099511627776) hl hl.ends, cnt_congr (q := fun k => decide (a ≤ k ∧ k < a + n)) fun k _ => h k (by omega), cnt_range ha (by omega) (by omega)]
  omega
theorem many_nonneg {f : Int} {l : List Ex} (h : Ok f l) : 0 ≤ manyE l ∧ manyE l ≤ 1099511627776 := by
  suffices hs : ∀ {f : Int}, Ok f l → 0 ≤ manyE l ∧ (0 ≤ f → f ≤ 1099511627776 → f + manyE l ≤ 1099511627776) by
    have h0 := hs (ok_zero h)
    exact ⟨h0.1, by have := h0.2 (by omega) (by omega); omega⟩
  clear h f
  induction l with
  | nil => intro f _; exact ⟨Int.le_refl _, fun _ h => by rw [manyE]; omega⟩
  | cons x r ih =>
    intro f h
    have h1 := ih h.2.2
    have h2 := en_le h.1
    have h3 := en_lt h.1
    have h4 := h.2.1
    have h5 : x.en = x.lba + x.n := rfl
    have h6 := h.1.1
    rw [manyE]
    refine ⟨by omega, fun _ _ => ?_⟩
    have := h1.2 (by omega) h2
    omega
end Ext
end Go.Proofs.Ytnnphpfobdcmbaa
