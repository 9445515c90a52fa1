/-
  WHAT NetCarries' LOOPS CARRY: in memory, in plain; what an operation comes to.
-/
import Derived.Test.YtamahknnppjegaaNetBody
namespace Go.Proofs.Ytamahknnppjegaa
open Go.RowKit Mem Box GM
namespace Net
open Wire (B8)
theorem OwnN.low_ {lo k : Nat} {w w' : World} {s : Value} {n : Nat} {l : List Mx} (h : OwnN lo lo w s n l) (hk : k < lo) (hm : Mov [k] w w') : OwnN lo lo w' s n l :=
  h.mov_ (fun e => by have := (h.own.lt _ e).1; omega) (fun x hx q hq => by have := h.low x hx q hq; omega) hm
/-- In memory. -/
structure Cm (W w : World) (g r1 r2 r3 cap : Nat) (Q : Option Addr) (n c : Nat) (l : List Mx) (a : List (Kb × Int)) (b : List (Kb × Bool)) (d : List (Kb × Int)) : Prop where
  below : Below W.heap.size W w
  box : NBox w g cap Q n c
  own : ∃ lo, g < lo ∧ r1 < lo ∧ r2 < lo ∧ r3 < lo ∧ lo ≤ w.heap.size ∧ OwnN lo lo w (.slice Q n c) n l
  s : MI w r1 a
  m : MB w r2 b
  o : MI w r3 d
  ne : r1 ≠ r2 ∧ r1 ≠ r3 ∧ r2 ≠ r3
  up : W.heap.size ≤ g ∧ W.heap.size ≤ r1 ∧ W.heap.size ≤ r2 ∧ W.heap.size ≤ r3
section
variable {W w w' : World} {g r1 r2 r3 cap : Nat} {Q : Option Addr} {n c : Nat} {l : List Mx} {a a' : List (Kb × Int)} {b b' : List (Kb × Bool)} {d d' : List (Kb × Int)}
theorem Cm.net (h : Cm W w g r1 r2 r3 cap Q n c l a b d) (hn : n ≤ 5000) : NetAt w Q n c l := by
  obtain ⟨lo, -, -, -, -, -, ho⟩ := h.own
  exact ho.net (by omega)
theorem Cm.fresh (h : Cm W w g r1 r2 r3 cap Q n c l a b d) (hb : Below w.heap.size w w') : Cm W w' g r1 r2 r3 cap Q n c l a b d := by
  obtain ⟨lo, h1, h2, h3, h4, h5, ho⟩ := h.own
  exact ⟨h.below.trans (hb.mono h.below.size), h.box.below hb, ⟨lo, h1, h2, h3, h4, Nat.le_trans h5 hb.size, ho.below hb⟩, h.s.below hb, h.m.below hb, h.o.below hb, h.ne, h.up⟩
theorem Cm.movd {k : Nat} (h : Cm W w g r1 r2 r3 cap Q n c l a b d) (hV : Mov [k] w w') (hk : k = r1 ∨ k = r2 ∨ k = r3) : Below W.heap.size W w' ∧ NBox w' g cap Q n c ∧ ∃ lo, g < lo ∧ r1 < lo ∧ r2 < lo ∧ r3 < lo ∧ lo ≤ w'.heap.size ∧ OwnN lo lo w' (.slice Q n c) n l := by
  obtain ⟨lo, h1, h2, h3, h4, h5, ho⟩ := h.own
  have n1 := h.s.ne h.box
  have n2 := h.m.ne h.box
  have n3 := h.o.ne h.box
  have hup := h.up
  refine ⟨h.below.trans (hV.up h.below.size (by rcases hk with rfl | rfl | rfl <;> omega)), h.box.mov hV ?_, lo, h1, h2, h3, h4, Nat.le_trans h5 hV.size, ho.low_ (by rcases hk with rfl | rfl | rfl <;> omega) hV⟩
  simp only [List.mem_singleton]
  rcases hk with rfl | rfl | rfl <;> assumption
theorem Cm.putS (h : Cm W w g r1 r2 r3 cap Q n c l a b d) (hL : MI w' r1 a') (hV : Mov [r1] w w') : Cm W w' g r1 r2 r3 cap Q n c l a' b d := by
  obtain ⟨h1, h2, h3⟩ := h.movd hV (.inl rfl)
  have hne := h.ne
  exact ⟨h1, h2, h3, hL, h.m.mov hV (by simp; omega), h.o.mov hV (by simp; omega), h.ne, h.up⟩
theorem Cm.putD (h : Cm W w g r1 r2 r3 cap Q n c l a b d) (hL : MB w' r2 b') (hV : Mov [r2] w w') : Cm W w' g r1 r2 r3 cap Q n c l a b' d := by
  obtain ⟨h1, h2, h3⟩ := h.movd hV (.inr (.inl rfl))
  have hne := h.ne
  exact ⟨h1, h2, h3, h.s.mov hV (by simp; omega), hL, h.o.mov hV (by simp; omega), h.ne, h.up⟩
theorem Cm.putO (h : Cm W w g r1 r2 r3 cap Q n c l a b d) (hL : MI w' r3 d') (hV : Mov [r3] w w') : Cm W w' g r1 r2 r3 cap Q n c l a b d' := by
  obtain ⟨h1, h2, h3⟩ := h.movd hV (.inr (.inr rfl))
  have hne := h.ne
  exact ⟨h1, h2, h3, h.s.mov hV (by simp; omega), h.m.mov hV (by simp; omega), hL, h.ne, h.up⟩
/-- Another net is put in. -/
theorem Cm.give {lo : Nat} {Q2 : Option Addr} {n2 c2 : Nat} {l2 : List Mx} (h : Cm W w g r1 r2 r3 cap Q n c l a b d) (h0 : g < lo ∧ r1 < lo ∧ r2 < lo ∧ r3 < lo ∧ lo ≤ w.heap.size) (hN : OwnN lo lo w (.slice Q2 n2 c2) n2 l2) :
    Cm W ((w.setCell ⟨g, 0, none⟩ (.int .i64 (cap : Int))).setCell ⟨g, 1, none⟩ (.slice Q2 n2 c2)) g r1 r2 r3 cap Q2 n2 c2 l2 a b d := by
  have bt := Mov.set2 w g (.int .i64 (cap : Int)) (.slice Q2 n2 c2)
  have n1 := h.s.ne h.box
  have n2 := h.m.ne h.box
  have n3 := h.o.ne h.box
  exact ⟨h.below.trans (bt.up h.below.size h.up.1), Cells.set2 h.box _ _, ⟨lo, h0.1, h0.2.1, h0.2.2.1, h0.2.2.2.1, Nat.le_trans h0.2.2.2.2 bt.size, hN.low_ h0.1 bt⟩, h.s.mov bt (by simp; omega), h.m.mov bt (by simp; omega), h.o.mov bt (by simp; omega), h.ne, h.up⟩
end
/-- In plain; i operations were done. -/
structure Cq (N : List Mp) (a : List (Kb × Int)) (b : List (Kb × Bool)) (d : List (Kb × Int)) (S O : Kb → Nat) (cap i : Nat) : Prop where
  cs : Ct a S
  co : Ct d O
  inv : Inv N S b O
  bs : ∀ s, S s ≤ 5000 * i
  bo : ∀ s, O s ≤ i
  len : N.length ≤ cap
section
variable {N : List Mp} {a a' : List (Kb × Int)} {b : List (Kb × Bool)} {d : List (Kb × Int)} {S O : Kb → Nat} {cap i : Nat}
theorem Cq.nil (cap : Nat) : Cq [] [] [] [] (fun _ => 0) (fun _ => 0) cap 0 := ⟨Ct.nil, Ct.nil, Inv.nil, fun _ => by simp, fun _ => by simp, by simp⟩
theorem Cq.next (h : Cq N a b d S O cap i) : Cq N a b d S O cap (i + 1) := ⟨h.cs, h.co, h.inv, fun s => by have := h.bs s; omega, fun s => by have := h.bo s; omega, h.len⟩
theorem Cq.with (h : Cq N a b d S O cap i) {N' : List Mp} (hi : Inv N' S b O) (hl : N'.length ≤ cap) : Cq N' a b d S O cap (i + 1) := ⟨h.cs, h.co, hi, fun s => by have := h.bs s; omega, fun s => by have := h.bo s; omega, hl⟩
theorem Cq.mark (h : Cq N a b d S O cap i) (k : Kb) : Cq N a (setB b k true) d S O cap i := ⟨h.cs, h.co, h.inv.mark k, h.bs, h.bo, h.len⟩
theorem Cq.took (h : Cq N a b d S O cap i) {j : Nat} {x : Mp} (hx : N[j]? = some x) : Cq (N.eraseIdx j) a b (setB d (keyP x) ((O (keyP x) : Int) + 1)) S (inc O (keyP x)) cap (i + 1) :=
  ⟨h.cs, h.co.more _, h.inv.took hx, fun s => by have := h.bs s; omega, fun s => by have := h.bo s; unfold inc; split <;> omega, Nat.le_trans (List.eraseIdx_sublist _ _).length_le h.len⟩
theorem Cq.sent (h : Cq N a b d S O cap i) {r : List Mp} (hr : ∀ m ∈ r, okM m = true) (hl : (N ++ r).length ≤ cap) (hc : cap ≤ 5000) (ha : Ct a' (fun s => S s + cnt r s)) : Cq (N ++ r) a' b d (fun s => S s + cnt r s) O cap (i + 1) :=
  ⟨ha, h.co, h.inv.sent hr, fun s => by have h1 := h.bs s; have h2 := cnt_le r s; rw [List.length_append] at hl; omega, fun s => by have := h.bo s; omega, hl⟩
end
theorem ct_same {a : List (Kb × Int)} {f f' : Kb → Nat} (h : Ct a f) (e : ∀ s, f s = f' s) : Ct a f' := ⟨fun s => by rw [h.cv s, e s], h.pos, h.kn⟩
/-! ### What an operation comes to -/
def Bad (R : R5) : Prop := ∃ c p x e k, R = (c, p, x, e, k) ∧ e ≠ 0
theorem op_send (cap : Nat) (N : List Mp) (i : Int) (L : List Mp) : ∃ r, bodyR cap N 0 i L = (cap, N ++ r, zM, 0, (r.length : Int)) ∧ (∀ m ∈ r, okM m = true) ∧ r.length ≤ L.length ∧ (N ++ r).length ≤ max N.length cap := by
  obtain ⟨r, h1, h2⟩ := send_pre cap N L
  have h3 := send_cnt cap N L
  have h4 := (send_len cap N L).2
  rw [h1] at h3 h4
  refine ⟨r, ?_, fun m hm => (h2 m hm).2, by rw [List.length_append] at h3; omega, h4⟩
  unfold bodyR sendR
  rw [if_pos rfl, h1, List.length_append]
  show (cap, N ++ r, zM, 0, ((N.length + r.length : Nat) : Int) - (N.length : Int)) = _
  congr 4
  omega
theorem op_take (cap : Nat) (N : List Mp) (i : Int) (L : List Mp) : (∃ j x, N[j]? = some x ∧ bodyR cap N 1 i L = (cap, N.eraseIdx j, x, 0, 0)) ∨ Bad (bodyR cap N 1 i L) := by
  unfold bodyR takeR
  rw [if_neg (by decide), if_pos rfl]
  rcases e : atP N i with _ | x
  · exact .inr ⟨_, _, _, 4, _, rfl, by decide⟩
  · refine .inl ⟨i.toNat, x, ?_, rfl⟩
    unfold atP at e
    split at e
    · exact e
    · cases e
theorem op_double (cap : Nat) (N : List Mp) {j : Nat} {x : Mp} (hx : N[j]? = some x) (L : List Mp) : (N.length < cap ∧ bodyR cap N 3 (j : Int) L = (cap, N ++ [x], zM, 0, 0)) ∨ Bad (bodyR cap N 3 (j : Int) L) := by
  unfold bodyR doubleR
  rw [if_neg (by decide), if_neg (by decide), if_neg (by decide), if_pos rfl]
  have e : atP N (j : Int) = some x := by unfold atP; rw [if_pos (by omega), Int.toNat_natCast, hx]
  rw [e]
  by_cases h : N.length < cap
  · refine .inl ⟨h, ?_⟩
    dsimp only
    rw [if_pos h]
  · refine .inr ?_
    dsimp only
    rw [if_neg h]
    exact ⟨_, _, _, 2, _, rfl, by decide⟩
theorem op_nodouble (cap : Nat) (N : List Mp) {i : Int} (hi : i < 0 ∨ (N.length : Int) ≤ i) (L : List Mp) : Bad (bodyR cap N 3 i L) := by
  unfold bodyR doubleR
  rw [if_neg (by decide), if_neg (by decide), if_neg (by decide), if_pos rfl]
  have e : atP N i = none := by
    unfold atP
    split
    · rw [List.getElem?_eq_none_iff]; omega
    · rfl
  rw [e]
  exact ⟨_, _, _, 4, _, rfl, by decide⟩
theorem op_other (cap : Nat) (N : List Mp) {d : Int} (h0 : d ≠ 0) (h1 : d ≠ 1) (h3 : d ≠ 3) (i : Int) (L : List Mp) : (∃ pl k, bodyR cap N d i L = (cap, pl, zM, 0, k) ∧ (∀ p ∈ pl, p ∈ N) ∧ (∀ s, cnt pl s ≤ cnt N s) ∧ pl.length ≤ N.length) ∨ Bad (bodyR cap N d i L) := by
  unfold bodyR
  rw [if_neg h0, if_neg h1]
  have hat : ∀ x, atP N i = some x → N[i.toNat]? = some x := fun x e => by
    unfold atP at e
    split at e
    · exact e
    · cases e
  by_cases h2 : d = 2
  · rw [if_pos h2]
    unfold dropR
    rcases e : atP N i with _ | x
    · exact .inr ⟨_, _, _, 4, _, rfl, by decide⟩
    · exact .inl ⟨N.eraseIdx i.toNat, 0, rfl, fun p hp => (List.eraseIdx_sublist _ _).subset hp, fun s => by have := cnt_split (hat x e) s; omega, (List.eraseIdx_sublist _ _).length_le⟩
  rw [if_neg h2, if_neg h3]
  by_cases h4 : d = 4
  · rw [if_pos h4]
    unfold laterR
    rcases e : atP N i with _ | x
    · exact .inr ⟨_, _, _, 4, _, rfl, by decide⟩
    · refine .inl ⟨N.eraseIdx i.toNat ++ [x], 0, rfl, fun p hp => ?_, fun s => ?_, ?_⟩
      · rcases List.mem_append.1 hp with hp | hp
        · exact (List.eraseIdx_sublist _ _).subset hp
        · rw [List.mem_singleton.1 hp]; exact List.mem_of_getElem? (hat x e)
      · rw [cnt_app, cnt_one]; have := cnt_split (hat x e) s; omega
      · have := (List.getElem?_eq_some_iff.1 (hat x e)).1
        rw [List.length_append, List.length_eraseIdx, if_pos this, List.length_singleton]; omega
  rw [if_neg h4]
  exact .inl ⟨_, _, rfl, fun p hp => (List.mem_filter.1 hp).1, fun s => cnt_filter _ _ s, List.length_filter_le _ _⟩
end Net
end Go.Proofs.Ytamahknnppjegaa
