/-
  WHAT THE CALLS GIVE, in plain; a cache whose blocks all lie from base on.
-/
import Derived.Test.YtfngebikihdogaaCacPut
import Derived.Test.YtfngebikihdogaaCacDrop
namespace Go.Proofs.Ytfngebikihdogaa
open Go.RowKit Mem Box GM
namespace Cac
abbrev kvs (ns : List Nd) : List Kv := ns.map (·.2)
def outK (L : List Kv) (n : Int) : List Kv := L.filter fun x => !(x.lba == n)
def cutK (m : Int) (L : List Kv) : List Kv := if m < L.length then L.dropLast else L
def putK (m : Int) (L : List Kv) (x : Kv) : List Kv := cutK m (x :: outK L x.lba)
theorem outK_none {L : List Kv} {n : Int} (h : ∀ x ∈ L, x.lba ≠ n) : outK L n = L :=
  List.filter_eq_self.2 fun x hx => by simpa using h x hx
theorem kvs_out {a b : List Nd} {y : Nd} (hn : (lbas (a ++ y :: b)).Nodup) : outK (kvs (a ++ y :: b)) y.2.lba = kvs (a ++ b) := by
  obtain ⟨h1, h2, -⟩ := lbas_parts hn
  unfold outK kvs
  rw [List.map_append, List.map_cons, List.filter_append, List.filter_cons, show (y.2.lba == y.2.lba) = true by simp, List.map_append]
  simp only [Bool.not_true]
  rw [List.filter_eq_self.2, List.filter_eq_self.2]
  · rfl
  · intro x hx
    obtain ⟨z, hz, rfl⟩ := List.mem_map.1 hx
    have : z.2.lba ≠ y.2.lba := fun e => h2 (List.mem_map.2 ⟨z, hz, e⟩)
    simpa using this
  · intro x hx
    obtain ⟨z, hz, rfl⟩ := List.mem_map.1 hx
    have : z.2.lba ≠ y.2.lba := fun e => h1 (List.mem_map.2 ⟨z, hz, e⟩)
    simpa using this
theorem kvs_cut (m : Int) (l : List Nd) : kvs (cutM m l) = cutK m (kvs l) := by
  unfold cutM cutK kvs
  rw [List.length_map]
  split
  · rw [List.map_dropLast]
  · rfl
theorem cutK_len {m : Int} {L : List Kv} (h : (L.length : Int) ≤ m + 1) : ((cutK m L).length : Int) ≤ m ∨ cutK m L = [] := by
  unfold cutK
  split
  · rw [List.length_dropLast]
    rcases L with _ | ⟨x, L⟩
    · exact .inr rfl
    · left; simp only [List.length_cons] at h ⊢; omega
  · left; omega
theorem putK_len {m : Int} {L : List Kv} {x : Kv} (hm : 0 ≤ m) (h : (L.length : Int) ≤ m) : ((putK m L x).length : Int) ≤ m := by
  unfold putK
  have h1 : (outK L x.lba).length ≤ L.length := List.length_filter_le _ _
  rcases cutK_len (m := m) (L := x :: outK L x.lba) (by simp only [List.length_cons]; omega) with h2 | h2
  · exact h2
  · rw [h2]; exact hm
/-- A cache in memory, whose blocks lie from base on, with room. -/
structure CB (base : Nat) (w : World) (g r : Nat) (m : Int) (ns : List Nd) (h s : Int) : Prop where
  at_ : CacheAt w g r m ns h s
  low : ∀ x ∈ foot g r ns, base ≤ x
  base : base ≤ w.heap.size
  room : (ns.length : Int) ≤ m
  some : 0 ≤ m
section
variable {base : Nat} {w w' : World} {g r : Nat} {m h s : Int} {ns : List Nd}
theorem CB.below (H : CB base w g r m ns h s) (hb : Below w.heap.size w w') : CB base w' g r m ns h s := ⟨H.at_.below hb, H.low, Nat.le_trans H.base hb.size, H.room, H.some⟩
theorem CB.mov {S : List Nat} (H : CB base w g r m ns h s) (hb : Mov S w w') (hn : ∀ p ∈ S, p ∉ foot g r ns) : CB base w' g r m ns h s := ⟨H.at_.mov hb hn, H.low, Nat.le_trans H.base hb.size, H.room, H.some⟩
theorem CB.drew (H : CB base w g r m ns h s) : CB base w.drew g r m ns h s := ⟨H.at_.drew, H.low, H.base, H.room, H.some⟩
theorem CB.down (H : CB base w g r m ns h s) (hb : Mov (foot g r ns) w w') : Below base w w' := hb.below H.base H.low
/-- A map that is not the cache's own is none of its blocks. -/
theorem CB.not_map {κ V : Type} [DecidableEq κ] {mk : κ → Value} {ok : κ → Prop} {bt : V → Value} {q : Nat} {ks : List (κ × V)} (H : CB base w g r m ns h s) (hq : FMap mk ok bt w q ks) (hr : q ≠ r) : q ∉ foot g r ns := by
  intro hm
  rcases List.mem_cons.1 hm with e | hm
  · exact hq.ne H.at_.dl.head e.symm
  · rcases List.mem_cons.1 hm with e | hm
    · exact hr e
    · have : ∀ (l : List Nd) (a b : Option Nat), Seg w a l b → q ∉ blk l := by
        intro l
        induction l with
        | nil => intro _ _ _ h; cases h
        | cons x l ih =>
          intro a b hs hm
          rcases List.mem_cons.1 hm with e | hm
          · obtain ⟨cs', hc', -⟩ := hs.1
            exact hq.ne hc' e.symm
          · exact ih _ _ hs.2 hm
      exact this ns _ _ H.at_.dl.seg hm
theorem Mem.Owns.mov {α : Type} {f : α → Value} {e : TypeId} {bs : Nat} {v : Value} {n : Nat} {l : List α} (O : Mem.Owns f e bs w v n l) (H : CB base w g r m ns h s) (h1 : e ≠ 57) (h2 : e ≠ 61) (hb : Mov (foot g r ns) w w') : Mem.Owns f e bs w' v n l := by
  refine ⟨O.1, ?_⟩
  rcases O.2 with hn | ⟨q, cap, cur, e', hbg, hq, rest⟩
  · exact .inl hn
  · exact .inr ⟨q, cap, cur, e', hbg, (hb.block q (Array.getElem?_eq_some_iff.1 hq).1 (H.at_.not hq h1 h2)).trans hq, rest⟩
theorem CB.text {A : Option Addr} {l : List (BitVec 8)} (H : CB base w g r m ns h s) (T : TextAt w A l) (hb : Mov (foot g r ns) w w') : TextAt w' A l := T.mov H.at_ hb fun _ hx => .inl hx

/-- A new one. -/
theorem new_cb (m : Int) (w : World) (hb : base ≤ w.heap.size) : Calls Try.prog 8 #[.int .i64 m] w fun e w' => e = .returned (.pointer (some ⟨w.heap.size + 1, 0, none⟩)) ∧ CB base w' (w.heap.size + 1) w.heap.size (max m 0) [] 0 0 ∧ Below w.heap.size w w' :=
  (new_any m w).mono fun _ _ ⟨he, hC, hB⟩ => ⟨he, ⟨hC, fun x hx => by simp [foot, blk] at hx; omega, Nat.le_trans hb hB.size, by simp; omega, by omega⟩, hB⟩
/-- Put of what may be there. -/
theorem put_ok {n v : Int} {A : Option Addr} {l : List (BitVec 8)} (H : CB base w g r m ns h s) (hn : 0 ≤ n) (hv : 0 ≤ v) (hno : ∀ y, who ns n = some y → y.2.ver ≤ v) (hT : TextAt w A l) :
    Calls Try.prog 9 #[.pointer (some ⟨g, 0, none⟩), .int .i64 n, .int .i64 v, .slice A 16 16] w fun e w' => e = .returned (.int .i64 0) ∧ ∃ ns', kvs ns' = putK m (kvs ns) ⟨n, v, l⟩ ∧ CB base w' g r m ns' h s ∧ Mov (foot g r ns) w w' := by
  by_cases hm : m = 0
  · have hns : ns = [] := by
      have h1 := H.room
      rw [hm] at h1
      exact List.eq_nil_of_length_eq_zero (by omega)
    have H0 : CacheAt w g r 0 ns h s := hm ▸ H.at_
    refine (put_zero H0 hn hv).mono fun e w' ⟨he, hw⟩ => ⟨he, ns, ?_, hw ▸ H, hw ▸ Mov.refl _ _⟩
    rw [hns, hm]; rfl
  · have fin : ∀ (n1 : List Nd) (e : Ending) (w' : World), kvs n1 = outK (kvs ns) n → n1.Sublist ns → PutNew g r m h s n1 ⟨n, v, l⟩ w w' e → e = .returned (.int .i64 0) ∧ ∃ ns', kvs ns' = putK m (kvs ns) ⟨n, v, l⟩ ∧ CB base w' g r m ns' h s ∧ Mov (foot g r ns) w w' := by
      rintro n1 e w' hk hsub ⟨he, p, hC, hp, hV, -⟩
      have hkv : kvs (cutM m ((p, ⟨n, v, l⟩) :: n1)) = putK m (kvs ns) ⟨n, v, l⟩ := by
        rw [kvs_cut]
        unfold putK
        rw [← hk]; rfl
      refine ⟨he, _, hkv, ⟨hC, fun x hx => ?_, Nat.le_trans H.base hV.size, ?_, H.some⟩, hV.mono fun x hx => .inl (foot_sub hsub x hx)⟩
      · have h1 := foot_sub (cutM_sub m ((p, ⟨n, v, l⟩) :: n1)) x hx
        rcases List.mem_cons.1 h1 with e | h1
        · exact H.low x (e ▸ List.mem_cons_self)
        · rcases List.mem_cons.1 h1 with e | h1
          · exact H.low x (by rw [e]; simp [foot])
          · rcases List.mem_cons.1 h1 with e | h1
            · rw [e]; exact Nat.le_trans H.base hp
            · exact H.low x (foot_sub hsub x (List.mem_cons_of_mem _ (List.mem_cons_of_mem _ h1)))
      · have := congrArg List.length hkv
        rw [List.length_map] at this
        rw [this]
        exact putK_len H.some (by rw [List.length_map]; exact H.room)
    rcases e1 : who ns n with _ | y
    · refine (put_none H.at_ hm hn hv e1 hT).mono fun e w' hP => fin ns e w' ?_ (List.Sublist.refl _) hP
      rw [outK_none]
      intro x hx e
      obtain ⟨z, hz, rfl⟩ := List.mem_map.1 hx
      exact who_none.1 e1 (List.mem_map.2 ⟨z, hz, e⟩)
    · obtain ⟨hy, rfl⟩ := who_some e1
      obtain ⟨a, b, rfl⟩ := List.append_of_mem hy
      exact (put_some H.at_ hm hn hv (hno y e1) hT).mono fun e w' hP => fin (a ++ b) e w' (kvs_out H.at_.keys).symm (List.Sublist.append_left (List.sublist_cons_self _ _) _) hP
/-- Get of what is there. -/
theorem get_hit {n v : Int} {y : Nd} (H : CB base w g r m ns h s) (hy : who ns n = some y) (hv : y.2.ver = v) (h0 : 0 ≤ h) (h1 : h ≤ 4611686018427387904) :
    Calls Try.prog 12 #[.pointer (some ⟨g, 0, none⟩), .int .i64 n, .int .i64 v] w fun e w' => (∃ A c, e = .returned (.tuple #[.slice A 16 c, .bool true]) ∧ Owns cb 5 0 w' (.slice A 16 c) 16 y.2.txt) ∧ (∃ ns', kvs ns' = y.2 :: outK (kvs ns) n ∧ CB base w' g r m ns' (h + 1) s) ∧ Mov (foot g r ns) w w' := by
  obtain ⟨hm, rfl⟩ := who_some hy
  subst hv
  obtain ⟨a, b, rfl⟩ := List.append_of_mem hm
  refine (get_some (p := y.1) (x := y.2) H.at_ h0 h1).mono fun e w' ⟨hE, hC, hV⟩ => ⟨hE, ⟨_, ?_, ⟨hC, fun x hx => H.low x ?_, Nat.le_trans H.base hV.size, ?_, H.some⟩⟩, hV⟩
  · rw [kvs_out H.at_.keys]; rfl
  · simp only [foot, blk, List.map_cons, List.map_append, List.mem_cons, List.mem_append] at hx ⊢
    rcases hx with h | h | h | h | h
    · exact .inl h
    · exact .inr (.inl h)
    · exact .inr (.inr (.inr (.inl h)))
    · exact .inr (.inr (.inl h))
    · exact .inr (.inr (.inr (.inr h)))
  · have := H.room
    simp only [List.length_append, List.length_cons] at this ⊢
    omega
/-- Get of what is not. -/
theorem get_miss {n v : Int} (H : CB base w g r m ns h s) (hno : ∀ y, who ns n = some y → y.2.ver ≠ v) (h0 : 0 ≤ s) (h1 : s ≤ 4611686018427387904) :
    Calls Try.prog 12 #[.pointer (some ⟨g, 0, none⟩), .int .i64 n, .int .i64 v] w fun e w' => e = .returned (.tuple #[.slice none 0 0, .bool false]) ∧ CB base w' g r m ns h (s + 1) ∧ Mov (foot g r ns) w w' :=
  (get_none H.at_ hno h0 h1).mono fun _ _ ⟨hE, hC, hV, hz⟩ => ⟨hE, ⟨hC, H.low, Nat.le_trans H.base hV.size, H.room, H.some⟩, hV⟩
/-- Drop. -/
theorem drop_cb (H : CB base w g r m ns h s) (hlen : ns.length ≤ 100000) (hL : ∀ y ∈ ns, 0 ≤ y.2.lba ∧ y.2.lba ≤ 9223372036854775807) {a n : Int} (ha : 0 ≤ a) (ha2 : a ≤ 9223372036854775807) (hn2 : n ≤ 9223372036854775807) :
    Calls Try.prog 13 #[.pointer (some ⟨g, 0, none⟩), .int .i64 a, .int .i64 n] w fun e w' => e = .returned (.int .i64 ((ns.length : Int) - ((dropN ns a n).length : Int))) ∧ CB base w' g r m (dropN ns a n) h s ∧ Mov (foot g r ns) w w' :=
  (drop_any H.at_ hlen hL ha ha2 hn2).mono fun _ _ ⟨hE, hC, hV⟩ => ⟨hE, ⟨hC, fun x hx => H.low x (foot_sub (dropN_sub ns a n) x hx), Nat.le_trans H.base hV.size, by have := (dropN_sub ns a n).length_le; have := H.room; omega, H.some⟩, hV⟩
end
end Cac
end Go.Proofs.Ytfngebikihdogaa
