/-
  WHAT CacheLast KEEPS: the map of what was put last has all that is there.
-/
import Derived.Test.YtfngebikihdogaaCacThere
import Derived.Maps.RangeWalk
namespace Go.Proofs.Ytfngebikihdogaa
open Go.RowKit Mem Box GM
namespace Cac
abbrev Ks := List (Key × List (BitVec 8))
structure Good (ks : Ks) (L : List Kv) : Prop where
  has : ∀ x ∈ L, getB ks (x.lba, x.ver) = some x.txt
  fit : ∀ x ∈ L, 0 ≤ x.lba ∧ I64 x.lba ∧ I64 x.ver
theorem Good.sub {ks : Ks} {L L' : List Kv} (h : Good ks L) (hs : ∀ x ∈ L', x ∈ L) : Good ks L' := ⟨fun x hx => h.has x (hs x hx), fun x hx => h.fit x (hs x hx)⟩
theorem putK_mem {m : Int} {L : List Kv} {a x : Kv} (h : x ∈ putK m L a) : x = a ∨ (x ∈ L ∧ x.lba ≠ a.lba) := by
  have h1 : x ∈ a :: outK L a.lba := by
    unfold putK cutK at h
    split at h
    · exact (List.dropLast_subset _) h
    · exact h
  rcases List.mem_cons.1 h1 with h1 | h1
  · exact .inl h1
  · have := List.mem_filter.1 h1
    exact .inr ⟨this.1, by simpa using this.2⟩
theorem putK_count {m : Int} {L : List Kv} {a : Kv} : (putK m L a).length ≤ L.length + 1 := by
  have h1 : (outK L a.lba).length ≤ L.length := List.length_filter_le _ _
  unfold putK cutK
  split
  · rw [List.length_dropLast, List.length_cons]; omega
  · rw [List.length_cons]; omega
theorem good_put {ks : Ks} {L : List Kv} {m : Int} {a : Kv} (h : Good ks L) (h0 : 0 ≤ a.lba) (h1 : I64 a.lba) (h2 : I64 a.ver) : Good (setB ks (a.lba, a.ver) a.txt) (putK m L a) := by
  refine ⟨fun x hx => ?_, fun x hx => ?_⟩
  · rw [get_set]
    rcases putK_mem hx with rfl | ⟨hx, hne⟩
    · rw [if_pos rfl]
    · rw [if_neg (fun e => hne (congrArg Prod.fst e))]
      exact h.has x hx
  · rcases putK_mem hx with rfl | ⟨hx, -⟩
    · exact ⟨h0, h1, h2⟩
    · exact h.fit x hx
/-- Is it this block's, at a greater version, and there? -/
def Pk (ns : List Nd) (lba ver : Int) (k : Key) : Prop := k.1 = lba ∧ ver < k.2 ∧ k ∈ keysL ns
theorem keys_kvs (ns : List Nd) : keysL ns = (kvs ns).map fun x => (x.lba, x.ver) := by
  unfold keysL kvs
  rw [List.map_map]; rfl
theorem pk_old {ks : Ks} {ns : List Nd} {lba ver : Int} {y : Nd} (hg : Good ks (kvs ns)) (hy : who ns lba = some y) (hv : ver < y.2.ver) : ∃ k ∈ ks, Pk ns lba ver k.1 := by
  obtain ⟨hm, rfl⟩ := who_some hy
  exact ⟨((y.2.lba, y.2.ver), y.2.txt), get_mem (hg.has y.2 (List.mem_map.2 ⟨y, hm, rfl⟩)), rfl, hv, List.mem_map.2 ⟨y, hm, rfl⟩⟩
theorem pk_new {ns ns' : List Nd} {m lba ver : Int} {l : List (BitVec 8)} (hk : kvs ns' = putK m (kvs ns) ⟨lba, ver, l⟩) (k : Key) : ¬ Pk ns' lba ver k := by
  rintro ⟨h1, h2, h3⟩
  rw [keys_kvs, hk] at h3
  obtain ⟨x, hx, rfl⟩ := List.mem_map.1 h3
  rcases putK_mem hx with rfl | ⟨-, hne⟩
  · have h2 : ver < ver := h2
    omega
  · exact hne h1
/-- What the loop over the operations carries. -/
structure St (base : Nat) (W w : World) (g r q : Nat) (m : Int) (t : Nat) (ns : List Nd) (h s : Int) (ks : Ks) : Prop where
  below : Below base W w
  cb : CB base w g r m ns h s
  last : LastAt w q ks
  qr : q ≠ r
  qb : base ≤ q
  good : Good ks (kvs ns)
  cnt : ns.length ≤ t ∧ 0 ≤ h ∧ h ≤ t ∧ 0 ≤ s ∧ s ≤ t
section
variable {base : Nat} {W w w' : World} {g r q : Nat} {m : Int} {t : Nat} {ns : List Nd} {h s : Int} {ks : Ks}
theorem St.fresh (H : St base W w g r q m t ns h s ks) (hb : Below w.heap.size w w') : St base W w' g r q m t ns h s ks :=
  ⟨H.below.trans (hb.mono H.cb.base), H.cb.below hb, H.last.below hb, H.qr, H.qb, H.good, H.cnt⟩
theorem St.later (H : St base W w g r q m t ns h s ks) : St base W w g r q m (t + 1) ns h s ks := ⟨H.below, H.cb, H.last, H.qr, H.qb, H.good, by have := H.cnt; omega⟩
/-- A call of the cache's. -/
theorem St.call {ns' : List Nd} {h' s' : Int} (H : St base W w g r q m t ns h s ks) (hC : CB base w' g r m ns' h' s') (hV : Mov (foot g r ns) w w') (hG : Good ks (kvs ns')) (hn : ns'.length ≤ t + 1) (hh : 0 ≤ h' ∧ h' ≤ (t : Int) + 1) (hs : 0 ≤ s' ∧ s' ≤ (t : Int) + 1) : St base W w' g r q m (t + 1) ns' h' s' ks :=
  ⟨H.below.trans (H.cb.down hV), hC, H.last.mov hV (H.cb.not_map H.last H.qr), H.qr, H.qb, hG, by omega⟩
theorem St.box {o : Ov} {ob : Nat} (H : St base W w g r q m t ns h s ks) (hV : Mov (foot g r ns) w w') (hO : OpBox w ob o) : OpBox w' ob o := Cells.mov hO hV (H.cb.at_.not hO (by decide) (by decide))
end
/-- The same, whatever is known of the map. -/
structure St0 (base : Nat) (W w : World) (g r q : Nat) (m : Int) (t : Nat) (ns : List Nd) (h s : Int) (ks : Ks) : Prop where
  below : Below base W w
  cb : CB base w g r m ns h s
  last : LastAt w q ks
  qr : q ≠ r
  qb : base ≤ q
  cnt : ns.length ≤ t ∧ 0 ≤ h ∧ h ≤ t ∧ 0 ≤ s ∧ s ≤ t
section
variable {base : Nat} {W w w' : World} {g r q : Nat} {m : Int} {t : Nat} {ns : List Nd} {h s : Int} {ks ks' : Ks}
theorem St.core (H : St base W w g r q m t ns h s ks) : St0 base W w g r q m t ns h s ks := ⟨H.below, H.cb, H.last, H.qr, H.qb, H.cnt⟩
theorem St0.fresh (H : St0 base W w g r q m t ns h s ks) (hb : Below w.heap.size w w') : St0 base W w' g r q m t ns h s ks :=
  ⟨H.below.trans (hb.mono H.cb.base), H.cb.below hb, H.last.below hb, H.qr, H.qb, H.cnt⟩
theorem St0.with (H : St0 base W w g r q m t ns h s ks) (hG : Good ks (kvs ns)) : St base W w g r q m t ns h s ks := ⟨H.below, H.cb, H.last, H.qr, H.qb, hG, H.cnt⟩
theorem St0.iter {it : Nat} (H : St0 base W w g r q m t ns h s ks) (hV : Mov [it] w w') (h1 : it ∉ foot g r ns) (h2 : base ≤ it) (h3 : q ≠ it) : St0 base W w' g r q m t ns h s ks :=
  ⟨H.below.trans (hV.below H.cb.base (by intro p hp; obtain rfl := List.mem_singleton.1 hp; exact h2)), H.cb.mov hV (by intro p hp hf; obtain rfl := List.mem_singleton.1 hp; exact h1 hf), H.last.mov hV (by simpa using h3), H.qr, H.qb, H.cnt⟩
theorem St0.put (H : St0 base W w g r q m t ns h s ks) (hL : LastAt w' q ks') (hV : Mov [q] w w') (hG : Good ks' (kvs ns)) : St base W w' g r q m t ns h s ks' :=
  ⟨H.below.trans (hV.below H.cb.base (by intro p hp; obtain rfl := List.mem_singleton.1 hp; exact H.qb)), H.cb.mov hV (by intro p hp hf; obtain rfl := List.mem_singleton.1 hp; exact H.cb.not_map H.last H.qr hf), hL, H.qr, H.qb, hG, H.cnt⟩
end
/-- The measure of a loop over the map. -/
theorem rng_left {w : World} {r q : Nat} {ks rest : Ks} (h : Rng mkP okP btS w r q ks rest) : w.rangeLeft r q = rest.length := by
  obtain ⟨es, clock, since, seen, c0, h1, -, -, -, h5, -, -, -, h8⟩ := h.it
  simp only [World.rangeLeft, h1, h5]
  have := h8.length
  simpa using this
end Cac
end Go.Proofs.Ytfngebikihdogaa
