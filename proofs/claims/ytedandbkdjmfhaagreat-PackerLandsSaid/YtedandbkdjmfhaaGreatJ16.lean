/-
  SEVERAL TEXTS IN ONE FILE: SegScan, SegSeg, SegRef, SegLive.
-/
import Derived.Test.YtedandbkdjmfhaaGreatJ15
set_option linter.unusedSimpArgs false
set_option linter.unusedVariables false
/-
  WALKS OVER seg'S Scan.
-/
namespace Go.Proofs.YtedandbkdjmfhaaGreat
open Go.RowKit Mem
namespace Seg
open Wire

/-- Where the frames begin. -/
def starts : Nat → List (Rc × Nat) → List Int
  | _, [] => []
  | u, (_, k) :: l => (u : Int) :: starts (u + k) l
def total (l : List (Rc × Nat)) : Nat := (l.map (·.2)).sum
theorem starts_snoc : ∀ (u : Nat) (l : List (Rc × Nat)) (r : Rc) (k : Nat), starts u (l ++ [(r, k)]) = starts u l ++ [((u + total l : Nat) : Int)]
  | u, [], r, k => by simp [starts, total]
  | u, (_, j) :: l, r, k => by
    rw [List.cons_append, starts, starts, starts_snoc (u + j) l r k]
    simp [total]; omega
theorem starts_len : ∀ (u : Nat) (l : List (Rc × Nat)), (starts u l).length = l.length
  | _, [] => rfl
  | u, (_, k) :: l => by rw [starts, List.length_cons, List.length_cons, starts_len]
theorem total_snoc (l : List (Rc × Nat)) (r : Rc) (k : Nat) : total (l ++ [(r, k)]) = total l + k := by simp [total]

/-- The header's frame at the beginning: the header, and how long the frame is. -/
def headAt (b : List B8) : Option (Hdr × Nat) :=
  match tk b with
  | some (x, k) => (match takeHead x with
    | some h => some (h, k)
    | none => none)
  | none => none

/-- What a scan found, as a value. -/
def foundV (h : Hdr) (L A : Value) (u : Nat) : Value := .agg #[.bool true, .int .i64 h.host, .int .i64 h.epoch, .int .i64 h.seq, L, A, .int .i64 (u : Int)]
def noneV : Value := .agg #[.bool false, .int .i64 0, .int .i64 0, .int .i64 0, .slice none 0 0, .slice none 0 0, .int .i64 0]
/-- What is found in memory. -/
structure FoundIn (base u0 : Nat) (acc : List (Rc × Nat)) (L A : Value) (xs : List Rv) (w : World) : Prop where
  rows : OwnsR base w L acc.length xs
  ats : Owns ci 3 base w A acc.length (starts u0 acc)
  data : ∀ x ∈ xs, Owns cb 5 base w (.slice x.D x.r.data.length x.c) x.r.data.length x.r.data
  recs : xs.map Rv.r = acc.map (·.1)
def Scanned (b : List B8) (w : World) (en : Ending) (w' : World) : Prop :=
  (match headAt b with
   | none => en = .returned noneV
   | some (h, u0) => ∃ acc L A xs, Scans (b.drop u0) acc ∧ u0 + total acc ≤ b.length ∧ en = .returned (foundV h L A (u0 + total acc)) ∧ FoundIn w.heap.size u0 acc L A xs w') ∧ Below w.heap.size w w'

section
variable {base u0 : Nat} {acc : List (Rc × Nat)} {L A : Value} {xs : List Rv} {w w' : World}
theorem FoundIn.nil : FoundIn base u0 [] (.slice none 0 0) (.slice none 0 0) [] w := ⟨OwnsR.nil _ _, Owns.nil _ _ _ _, by simp, rfl⟩
theorem FoundIn.keepG {g : Nat} (h : FoundIn base u0 acc L A xs w) (hg : g < base) (k : Crc.Keep g w w') : FoundIn base u0 acc L A xs w' :=
  ⟨h.rows.keepG hg k, Owns.keepG h.ats hg k, fun x hx => Owns.keepG (h.data x hx) hg k, h.recs⟩
theorem FoundIn.below (h : FoundIn base u0 acc L A xs w) (hb : Below w.heap.size w w') : FoundIn base u0 acc L A xs w' :=
  ⟨h.rows.below hb, h.ats.below hb, fun x hx => (h.data x hx).below hb, h.recs⟩
theorem FoundIn.setCell (h : FoundIn base u0 acc L A xs w) {p : Addr} (hp : p.block < base) (v : Value) : FoundIn base u0 acc L A xs (w.setCell p v) :=
  ⟨h.rows.setCell hp v, Owns.setCell h.ats hp v, fun x hx => Owns.setCell (h.data x hx) hp v, h.recs⟩
theorem FoundIn.mono {base' : Nat} (h : FoundIn base u0 acc L A xs w) (hb : base' ≤ base) : FoundIn base' u0 acc L A xs w :=
  ⟨h.rows.mono hb, h.ats.mono hb, fun x hx => (h.data x hx).mono hb, h.recs⟩
theorem FoundIn.set7 {g : Nat} (h : FoundIn base u0 acc L A xs w) (hp : g < base) (v0 v1 v2 v3 v4 v5 v6 : Value) : FoundIn base u0 acc L A xs (((((((w.setCell ⟨g, 0, none⟩ v0).setCell ⟨g, 1, none⟩ v1).setCell ⟨g, 2, none⟩ v2).setCell ⟨g, 3, none⟩ v3).setCell ⟨g, 4, none⟩ v4).setCell ⟨g, 5, none⟩ v5).setCell ⟨g, 6, none⟩ v6) :=
  ((((((h.setCell (p := ⟨g, 0, none⟩) hp v0).setCell (p := ⟨g, 1, none⟩) hp v1).setCell (p := ⟨g, 2, none⟩) hp v2).setCell (p := ⟨g, 3, none⟩) hp v3).setCell (p := ⟨g, 4, none⟩) hp v4).setCell (p := ⟨g, 5, none⟩) hp v5).setCell (p := ⟨g, 6, none⟩) hp v6
end

set_option maxRecDepth 100000 in
set_option maxHeartbeats 3200000 in
theorem scan_none {A : Option Addr} {n c : Nat} {b : List B8} {w : World} (h : Row cb w A n c b) (hn : n ≤ 1000000) (hh : headAt b = none) :
    Calls Tryz.prog 11 #[.slice A n c] w (Scanned b w) := by
  have HR := Lib.hid h
  have HT := fun g w (ht : Tk g 0 w) (h : RowO g w A n c b) => Lib.hid (take_any ht (by omega) h hn)
  have HH := fun A n c x w (h : Row cb w A n c x) (hn : n ≤ 1000000) => Lib.hid (takeHead_any h hn)
  have HN := fun w => Lib.hid (newFrames_any w)
  have L1 := Lib.hid ((Below.refl w.heap.size w).alloc (Nat.le_refl _) (.cells #[.bool false, .int .i64 0, .int .i64 0, .int .i64 0, .slice none 0 0, .slice none 0 0, .int .i64 0] 51))
  have C1 : Hid (Cells (w.alloc (.cells #[.bool false, .int .i64 0, .int .i64 0, .int .i64 0, .slice none 0 0, .slice none 0 0, .int .i64 0] 51)) w.heap.size 51 #[.bool false, .int .i64 0, .int .i64 0, .int .i64 0, .slice none 0 0, .slice none 0 0, .int .i64 0]) := heap_alloc_new w _
  unfold frV at *
  clear h
  go_enter Tryz.func11, Tryz.ntmps11
  go_wp2_with fail
  generalize w.alloc (.cells #[.bool false, .int .i64 0, .int .i64 0, .int .i64 0, .slice none 0 0, .slice none 0 0, .int .i64 0] 51) = w1 at *
  refine (HN w1).out.mono ?_
  rintro e w2 ⟨g, hg, rfl, hT, hb2⟩
  have L2 := Lib.hid (L1.out.trans (hb2.mono L1.out.size))
  have C2 := Lib.hid (Cells.below C1.out hb2)
  have T2 := Lib.hid hT
  have G1 : Hid (w.heap.size < g) := Nat.lt_of_lt_of_le (Cells.lt C1.out) hg
  clear hb2 hT hg C1 L1 HN
  go_wp2_with fail
  have L3 := Lib.hid (L2.out.alloc L2.out.size (.cells #[.pointer (some ⟨g, 0, none⟩)] 75))
  have C3 := Lib.hid (Cells.below C2.out ((Below.refl _ w2).alloc (Nat.le_refl _) (.cells #[.pointer (some ⟨g, 0, none⟩)] 75)))
  have T3 := Lib.hid (T2.out.alloc (.cells #[.pointer (some ⟨g, 0, none⟩)] 75))
  have hR3 : Hid (RowO g (w2.alloc (.cells #[.pointer (some ⟨g, 0, none⟩)] 75)) A n c b) := by
    have h0 := RowO.of_low HR.out (Nat.le_of_lt G1.out)
    exact ⟨HR.out.below L3.out, h0.off⟩
  generalize w2.alloc (.cells #[.pointer (some ⟨g, 0, none⟩)] 75) = w3 at *
  clear L2 C2 T2
  rcases ht : tk b with _ | ⟨x, k⟩
  · rw [ht] at HT
    refine (HT g w3 T3.out hR3.out).out.mono ?_
    rintro e w4 ⟨⟨rfl, hK4⟩, -⟩
    have C4 := Lib.hid ((Keep.block hK4 (Cells.lt C3.out) (Nat.ne_of_lt G1.out)).trans C3.out)
    have L4 := Lib.hid (L3.out.trans (hK4.low (B := w.heap.size) (Nat.le_of_lt G1.out) L3.out.size))
    obtain ⟨⟨c0, c1, c2, c3, c4, c5, c6⟩, f0, f1, f2, f3, f4, f5, f6⟩ := Cells.seven (show Cells w4 w.heap.size _ _ from C4.out)
    clear hK4 HT HH L3 C3 T3 hR3
    go_wp2_with fail
    (try simp only [Exit.inBlock, Exit.then])
    refine bodyPost_ret_by (results_cell_row rfl _ _ w.heap.size _ _ _ _ rfl (Cells.set7 (show Hid (Cells w4 w.heap.size _ _) from C4).out _ _ _ _ _ _ _) Tryz.underlying51 rfl (by kernel_rfl)) rfl ?_
    exact ⟨by rw [hh]; rfl, below7 L4.out _ _ _ _ _ _ _⟩
  · have hth : takeHead x = none := by
      unfold headAt at hh
      rw [ht] at hh
      simp only at hh
      split at hh
      · cases hh
      · assumption
    obtain ⟨t1, t2, t3, t4⟩ := tk_one ht
    have HH := fun A n c w h hn => HH A n c x w h hn
    rw [ht] at HT
    rw [hth] at HH
    refine (HT g w3 T3.out hR3.out).out.mono ?_
    rintro e w4 ⟨⟨⟨X, j, d, rfl, hO4⟩, hK4⟩, -⟩
    have C4 : Hid (Cells w4 w.heap.size _ _) := Lib.hid ((Keep.block hK4 (Cells.lt C3.out) (Nat.ne_of_lt G1.out)).trans C3.out)
    have L4 := Lib.hid (L3.out.trans (hK4.low (B := w.heap.size) (Nat.le_of_lt G1.out) L3.out.size))
    have hj := hO4.len
    obtain ⟨X', d', e5, hrow⟩ := hO4.row (by omega)
    obtain ⟨rfl, -, rfl⟩ : X = X' ∧ j = j ∧ d = d' := by simpa using e5
    have R4 := Lib.hid hrow
    clear hK4 HT L3 C3 T3 hR3 e5 hrow hO4 t1 t2 t4 ht hth
    go_wp2_with fail
    refine (HH X j d w4 R4.out (by omega)).out.mono ?_
    rintro e w5 ⟨rfl, hb5⟩
    have C5 := Lib.hid (Cells.below (Cells.below C4.out hb5) ((Below.refl _ w5).alloc (Nat.le_refl _) (.cells #[.int .i64 0, .int .i64 0, .int .i64 0] 23)))
    have L5 := Lib.hid ((L4.out.trans (hb5.mono L4.out.size)).alloc (Nat.le_trans L4.out.size hb5.size) (.cells #[.int .i64 0, .int .i64 0, .int .i64 0] 23))
    obtain ⟨⟨c0, c1, c2, c3, c4, c5, c6⟩, f0, f1, f2, f3, f4, f5, f6⟩ := Cells.seven C5.out
    clear hb5 HH C4 L4 R4
    go_wp2_with fail
    (try simp only [Exit.inBlock, Exit.then])
    refine bodyPost_ret_by (results_cell_row rfl _ _ w.heap.size _ _ _ _ rfl (Cells.set7 C5.out _ _ _ _ _ _ _) Tryz.underlying51 rfl (by kernel_rfl)) rfl ?_
    exact ⟨by rw [hh]; rfl, below7 L5.out _ _ _ _ _ _ _⟩

/-- What holds at the head of each round: so much was found, and the rest is to be scanned. -/
structure SI (g F fb : Nat) (w0 : World) (n : Nat) (b : List B8) (h : Hdr) (u0 used : Nat) (acc : List (Rc × Nat)) (L At : Value) (xs : List Rv) (wr : World) : Prop where
  below : Below w0.heap.size w0 wr
  fbx : Cells wr fb 75 #[.pointer (some ⟨g, 0, none⟩)]
  fnd : Cells wr F 51 #[.bool true, .int .i64 h.host, .int .i64 h.epoch, .int .i64 h.seq, L, At, .int .i64 (used : Int)]
  res : Cells wr w0.heap.size 51 #[.bool false, .int .i64 0, .int .i64 0, .int .i64 0, .slice none 0 0, .slice none 0 0, .int .i64 0]
  tab : Tk g (acc.length + 1) wr
  found : FoundIn (F + 1) u0 acc L At xs wr
  scan : ∀ l, Scans (b.drop used) l → Scans (b.drop u0) (acc ++ l)
  usedEq : used = u0 + total acc
  le : used ≤ n
  cnt : 5 * acc.length ≤ used
section
variable {g F fb n u0 used : Nat} {w0 wr w' : World} {b : List B8} {h : Hdr} {acc : List (Rc × Nat)} {L At : Value} {xs : List Rv}
/-- A call that may have changed the table alone. -/
theorem SI.keep (hI : SI g F fb w0 n b h u0 used acc L At xs wr) (k : Crc.Keep g wr w') (ht : Tk g (acc.length + 2) w') (hg : w0.heap.size < g) (hf : g < fb) (hF : fb < F) :
    Below w0.heap.size w0 w' ∧ Cells w' fb 75 #[.pointer (some ⟨g, 0, none⟩)] ∧ Cells w' F 51 #[.bool true, .int .i64 h.host, .int .i64 h.epoch, .int .i64 h.seq, L, At, .int .i64 (used : Int)] ∧
      Cells w' w0.heap.size 51 #[.bool false, .int .i64 0, .int .i64 0, .int .i64 0, .slice none 0 0, .slice none 0 0, .int .i64 0] ∧ Tk g (acc.length + 2) w' ∧ FoundIn (F + 1) u0 acc L At xs w' :=
  ⟨hI.below.trans (k.low (Nat.le_of_lt hg) hI.below.size), (Keep.block k (Cells.lt hI.fbx) (by omega)).trans hI.fbx, (Keep.block k (Cells.lt hI.fnd) (by omega)).trans hI.fnd, (Keep.block k (Cells.lt hI.res) (by omega)).trans hI.res, ht, hI.found.keepG (by omega) k⟩
end

theorem OwnsR.slice {base : Nat} {w : World} {s : Value} {n : Nat} {xs : List Rv} (h : OwnsR base w s n xs) : ∃ A c, s = .slice A n c := by
  rcases h.1.2 with ⟨rfl, h0⟩ | ⟨q, cap, cur, rfl, -⟩
  · exact ⟨none, 0, by rw [h0]⟩
  · exact ⟨_, _, rfl⟩
theorem info_rec : (Tryz.prog.info? 57).map (fun i => (i.zero, i.size, i.bytes)) = some (some zeroRec, 7, 72) := by kernel_rfl
theorem one_rec (x : Rv) : ∀ u ∈ cellsOf x, u.oneCell' = true := by
  intro u hu
  simp only [cellsOf, List.mem_cons, List.not_mem_nil, or_false] at hu
  rcases hu with rfl | rfl | rfl | rfl | rfl | rfl | rfl <;> rfl
theorem rec_cells_new (w : World) (x : Rv) (t : TypeId) {b : Nat} (hb : b = w.heap.size) : ∀ j u, (cellsOf x)[j]? = some u → (w.alloc (.cells #[.int .i64 x.r.kind, .int .i64 x.r.lba, .int .i64 x.r.n, .int .i64 x.r.ver, .int .i64 x.r.zone, .int .i64 x.r.off, .slice x.D x.r.data.length x.c] t)).cell? ((⟨b, 0, none⟩ : Addr).add j) = some u := by
  subst hb
  intro j u hu
  rw [add_none, cell_of_row _ w.heap.size (0 + j) _ _ (0, 0) (heap_alloc_new w _), Nat.zero_add]
  rw [List.getElem?_toArray]
  exact hu
theorem int_cell_new (w : World) (z : Int) (t : TypeId) {b : Nat} (hb : b = w.heap.size) : ∀ j u, ([Value.int .i64 z])[j]? = some u → (w.alloc (.cells #[.int .i64 z] t)).cell? ((⟨b, 0, none⟩ : Addr).add j) = some u := by
  subst hb
  intro j u hu
  rw [add_none, cell_of_row _ w.heap.size (0 + j) _ _ (0, 0) (heap_alloc_new w _), Nat.zero_add]
  rw [List.getElem?_toArray]
  exact hu
/-- One more record is found: the row of records. -/
theorem found_rows {base u0 : Nat} {acc : List (Rc × Nat)} {L At : Value} {xs : List Rv} {w10 w11 : World} {r : Rc} {k : Nat} {D : Option Addr} {cc : Nat} {L' : Value} (hf : FoundIn base u0 acc L At xs w10) (hd : Owns cb 5 base w10 (.slice D r.data.length cc) r.data.length r.data)
    (ho : w11.ownsRow base 57 7 L' (acc.length + 1) (xs.flatMap cellsOf ++ cellsOf ⟨r, D, cc⟩)) (hoth : Oth 57 w10 w11) :
    OwnsR base w11 L' (acc.length + 1) (xs ++ [⟨r, D, cc⟩]) ∧ Owns ci 3 base w11 At acc.length (starts u0 acc) ∧
      (∀ x ∈ xs ++ [(⟨r, D, cc⟩ : Rv)], Owns cb 5 base w11 (.slice x.D x.r.data.length x.c) x.r.data.length x.r.data) ∧ (xs ++ [(⟨r, D, cc⟩ : Rv)]).map Rv.r = (acc ++ [(r, k)]).map (·.1) := by
  refine ⟨⟨by simpa using ho, by have := hf.rows.2; simp; omega⟩, Oth.owns hf.ats hoth (by decide), fun x hx => ?_, by simp [hf.recs]⟩
  rcases List.mem_append.1 hx with hx | hx
  · exact Oth.owns (hf.data x hx) hoth (by decide)
  · simp only [List.mem_singleton] at hx
    subst hx
    exact Oth.owns hd hoth (by decide)
/-- .. and the row of places. -/
theorem found_more {F u0 used : Nat} {acc : List (Rc × Nat)} {L' At At' : Value} {xs : List Rv} {w11 w13 w14 : World} {r : Rc} {k : Nat} {D : Option Addr} {cc : Nat} {v4 : Value}
    (hp : OwnsR (F + 1) w11 L' (acc.length + 1) (xs ++ [⟨r, D, cc⟩]) ∧ Owns ci 3 (F + 1) w11 At acc.length (starts u0 acc) ∧
      (∀ x ∈ xs ++ [(⟨r, D, cc⟩ : Rv)], Owns cb 5 (F + 1) w11 (.slice x.D x.r.data.length x.c) x.r.data.length x.r.data) ∧ (xs ++ [(⟨r, D, cc⟩ : Rv)]).map Rv.r = (acc ++ [(r, k)]).map (·.1)) (hu : used = u0 + total acc)
    (ho : w14.ownsRow (F + 1) 3 1 At' (acc.length + 1) ((starts u0 acc).map ci ++ [.int .i64 (used : Int)])) (hb : Below (w11.setCell ⟨F, 4, none⟩ v4).heap.size (w11.setCell ⟨F, 4, none⟩ v4) w13) (hoth : Oth 3 w13 w14) :
    FoundIn (F + 1) u0 (acc ++ [(r, k)]) L' At' (xs ++ [⟨r, D, cc⟩]) w14 := by
  obtain ⟨h1, h2, h3, h4⟩ := hp
  refine ⟨?_, ?_, fun x hx => ?_, h4⟩
  · have := (OwnsR.oth ((h1.setCell (p := ⟨F, 4, none⟩) (Nat.lt_succ_self F) v4).below hb) hoth (by decide))
    simpa using this
  · rw [starts_snoc, ← hu]
    unfold Owns
    rw [List.length_append, List.map_append]
    exact ho
  · exact Oth.owns ((Owns.setCell (h3 x hx) (p := ⟨F, 4, none⟩) (Nat.lt_succ_self F) v4).below hb) hoth (by decide)
theorem SI.next {g F fb n u0 used : Nat} {w0 wr w9 w16 : World} {b : List B8} {h : Hdr} {acc : List (Rc × Nat)} {L At L' At' : Value} {xs xs' : List Rv} {r : Rc} {k : Nat}
    (hI : SI g F fb w0 n b h u0 used acc L At xs wr) (hone : one (b.drop used) = some (r, k)) (hkn : used + k ≤ n) (hk : 5 ≤ k) (hL : Below w0.heap.size w0 w9)
    (hX : Cells w9 fb 75 #[.pointer (some ⟨g, 0, none⟩)]) (hC : Cells w9 w0.heap.size 51 #[.bool false, .int .i64 0, .int .i64 0, .int .i64 0, .slice none 0 0, .slice none 0 0, .int .i64 0])
    (hT : Tk g (acc.length + 2) w9) (hQ : Below F w9 w16) (hD : Cells w16 F 51 #[.bool true, .int .i64 h.host, .int .i64 h.epoch, .int .i64 h.seq, L', At', .int .i64 ((used + k : Nat) : Int)])
    (hN : FoundIn (F + 1) u0 (acc ++ [(r, k)]) L' At' xs' w16) (hg : w0.heap.size < g) (hf : g < fb) (hF : fb < F) :
    SI g F fb w0 n b h u0 (used + k) (acc ++ [(r, k)]) L' At' xs' w16 := by
  refine ⟨hL.trans (hQ.mono (by omega)), (hQ.block fb hF).trans hX, hD, (hQ.block _ (by omega)).trans hC, ?_, hN, ?_, ?_, hkn, ?_⟩
  · have := hT.heap (hQ.block g (by omega))
    rw [List.length_append]
    exact this
  · intro l hl
    have := hI.scan ((r, k) :: l) (.step hone (by rw [List.drop_drop]; exact hl))
    simpa using this
  · rw [total_snoc]
    have := hI.usedEq
    omega
  · have := hI.cnt
    simp
    omega
/-- The scan ends: what was found is handed back. -/
theorem scanned_end {g F fb n u0 used : Nat} {w0 wr w7 : World} {b : List B8} {h : Hdr} {acc : List (Rc × Nat)} {L At : Value} {xs : List Rv}
    (hI : SI g F fb w0 n b h u0 used acc L At xs wr) (hone : one (b.drop used) = none) (hh : headAt b = some (h, u0)) (hlen : b.length = n) (hb : Below w0.heap.size w0 w7) (hf : FoundIn (F + 1) u0 acc L At xs w7) (hF : w0.heap.size < F)
    (v0 v1 v2 v3 v4 v5 v6 : Value) :
    Scanned b w0 (.returned (.agg #[.bool true, .int .i64 h.host, .int .i64 h.epoch, .int .i64 h.seq, L, At, .int .i64 (used : Int)])) (((((((w7.setCell ⟨w0.heap.size, 0, none⟩ v0).setCell ⟨w0.heap.size, 1, none⟩ v1).setCell ⟨w0.heap.size, 2, none⟩ v2).setCell ⟨w0.heap.size, 3, none⟩ v3).setCell ⟨w0.heap.size, 4, none⟩ v4).setCell ⟨w0.heap.size, 5, none⟩ v5).setCell ⟨w0.heap.size, 6, none⟩ v6) := by
  refine ⟨?_, below7 hb _ _ _ _ _ _ _⟩
  rw [hh]
  have hs := hI.scan [] (.stop hone)
  rw [List.append_nil] at hs
  have hu := hI.usedEq
  have hle := hI.le
  exact ⟨acc, L, At, xs, hs, by omega, by unfold foundV; rw [← hu], (hf.set7 (by omega) _ _ _ _ _ _ _).mono (by omega)⟩

set_option maxRecDepth 100000 in
set_option maxHeartbeats 6400000 in
theorem scan_some {A : Option Addr} {n c : Nat} {b : List B8} {w : World} (hr : Row cb w A n c b) (hn : n ≤ 1000000) {x : List B8} {u0 : Nat} {h : Hdr} (ht : tk b = some (x, u0)) (hth : takeHead x = some h) :
    Calls Tryz.prog 11 #[.slice A n c] w (Scanned b w) := by
  have HR := Lib.hid hr
  have hh : Hid (headAt b = some (h, u0)) := by show _ = _; unfold headAt; rw [ht]; simp only [hth]
  obtain ⟨t1, t2, t3, t4⟩ := tk_one ht
  have HT := fun g w (htb : Tk g 0 w) (h : RowO g w A n c b) => Lib.hid (take_any htb (by omega) h hn)
  rw [ht] at HT
  have HH := fun A n c w (hr : Row cb w A n c x) (hn : n ≤ 1000000) => Lib.hid (takeHead_any hr hn)
  rw [hth] at HH
  have HN := fun w => Lib.hid (newFrames_any w)
  have u0n : u0 ≤ n := by have := hr.len; omega
  have L1 := Lib.hid ((Below.refl w.heap.size w).alloc (Nat.le_refl _) (.cells #[.bool false, .int .i64 0, .int .i64 0, .int .i64 0, .slice none 0 0, .slice none 0 0, .int .i64 0] 51))
  have C1 : Hid (Cells (w.alloc (.cells #[.bool false, .int .i64 0, .int .i64 0, .int .i64 0, .slice none 0 0, .slice none 0 0, .int .i64 0] 51)) w.heap.size 51 #[.bool false, .int .i64 0, .int .i64 0, .int .i64 0, .slice none 0 0, .slice none 0 0, .int .i64 0]) := heap_alloc_new w _
  unfold frV at *
  clear hr ht hth t1 t2
  go_enter Tryz.func11, Tryz.ntmps11
  go_wp2_with fail
  generalize w.alloc (.cells #[.bool false, .int .i64 0, .int .i64 0, .int .i64 0, .slice none 0 0, .slice none 0 0, .int .i64 0] 51) = w1 at *
  refine (HN w1).out.mono ?_
  rintro e w2 ⟨g, hg, rfl, hT, hb2⟩
  have L2 := Lib.hid (L1.out.trans (hb2.mono L1.out.size))
  have C2 := Lib.hid (Cells.below C1.out hb2)
  have T2 := Lib.hid hT
  have G1 : Hid (w.heap.size < g) := Nat.lt_of_lt_of_le (Cells.lt C1.out) hg
  have G2 : Hid (g < w2.heap.size) := hT.lt
  clear hb2 hT hg C1 L1 HN
  go_wp2_with fail
  have L3 := Lib.hid (L2.out.alloc L2.out.size (.cells #[.pointer (some ⟨g, 0, none⟩)] 75))
  have C3 := Lib.hid (Cells.below C2.out ((Below.refl _ w2).alloc (Nat.le_refl _) (.cells #[.pointer (some ⟨g, 0, none⟩)] 75)))
  have F3 : Hid (Cells (w2.alloc (.cells #[.pointer (some ⟨g, 0, none⟩)] 75)) w2.heap.size 75 #[.pointer (some ⟨g, 0, none⟩)]) := heap_alloc_new w2 _
  have T3 := Lib.hid (T2.out.alloc (.cells #[.pointer (some ⟨g, 0, none⟩)] 75))
  have hR3 : Hid (RowO g (w2.alloc (.cells #[.pointer (some ⟨g, 0, none⟩)] 75)) A n c b) := by
    have h0 := RowO.of_low HR.out (Nat.le_of_lt G1.out)
    exact ⟨HR.out.below L3.out, h0.off⟩
  generalize w2.alloc (.cells #[.pointer (some ⟨g, 0, none⟩)] 75) = w3 at *
  generalize hfb : w2.heap.size = fb at *
  clear L2 C2 T2 hfb
  refine (HT g w3 T3.out hR3.out).out.mono ?_
  rintro e w4 ⟨⟨⟨X, j, d, rfl, hO4⟩, hK4⟩, hT4⟩
  have C4 : Hid (Cells w4 w.heap.size _ _) := Lib.hid ((Keep.block hK4 (Cells.lt C3.out) (Nat.ne_of_lt G1.out)).trans C3.out)
  have F4 : Hid (Cells w4 fb _ _) := Lib.hid ((Keep.block hK4 (Cells.lt F3.out) (Nat.ne_of_gt G2.out)).trans F3.out)
  have L4 := Lib.hid (L3.out.trans (hK4.low (B := w.heap.size) (Nat.le_of_lt G1.out) L3.out.size))
  have T4 := Lib.hid hT4
  have hj := hO4.len
  obtain ⟨X', d', e5, hrow⟩ := hO4.row (by omega)
  obtain ⟨rfl, -, rfl⟩ : X = X' ∧ j = j ∧ d = d' := by simpa using e5
  have R4 := Lib.hid hrow
  clear hK4 HT L3 C3 T3 F3 e5 hrow hO4 hT4 hR3
  go_wp2_with fail
  refine (HH X j d w4 R4.out (by omega)).out.mono ?_
  rintro e w5 hq5
  obtain ⟨rfl, hb5⟩ : e = .returned (.tuple #[.agg #[.int .i64 h.host, .int .i64 h.epoch, .int .i64 h.seq], .bool true]) ∧ Below w4.heap.size w4 w5 := hq5
  have L5 := Lib.hid (L4.out.trans (hb5.mono L4.out.size))
  have C5 := Lib.hid (Cells.below C4.out hb5)
  have F5 := Lib.hid (Cells.below F4.out hb5)
  have T5 := Lib.hid (T4.out.below hb5)
  clear hb5 HH C4 L4 R4 T4 F4
  go_wp2_with fail
  have B6 : Below w5.heap.size w5 ((w5.alloc (.cells #[.int .i64 h.host, .int .i64 h.epoch, .int .i64 h.seq] 23)).alloc (.cells #[.bool true, .int .i64 h.host, .int .i64 h.epoch, .int .i64 h.seq, .slice none 0 0, .slice none 0 0, .int .i64 (u0 : Int)] 51)) := ((Below.refl _ w5).alloc (Nat.le_refl _) _).alloc (by simp) _
  have I6 : Hid (SI g (w5.heap.size + 1) fb w n b h u0 u0 [] (.slice none 0 0) (.slice none 0 0) [] ((w5.alloc (.cells #[.int .i64 h.host, .int .i64 h.epoch, .int .i64 h.seq] 23)).alloc (.cells #[.bool true, .int .i64 h.host, .int .i64 h.epoch, .int .i64 h.seq, .slice none 0 0, .slice none 0 0, .int .i64 (u0 : Int)] 51))) := by
    refine ⟨L5.out.trans (B6.mono L5.out.size), Cells.below F5.out B6, heap_alloc2_new w5 _ _, Cells.below C5.out B6, (T5.out.below B6).mono (by simp), FoundIn.nil, fun l hl => hl, by simp [total], u0n, by simp⟩
  have hF : Hid (fb < w5.heap.size + 1) := Nat.lt_succ_of_lt (Cells.lt F5.out)
  generalize ((w5.alloc (.cells #[.int .i64 h.host, .int .i64 h.epoch, .int .i64 h.seq] 23)).alloc (.cells #[.bool true, .int .i64 h.host, .int .i64 h.epoch, .int .i64 h.seq, .slice none 0 0, .slice none 0 0, .int .i64 (u0 : Int)] 51)) = w6 at *
  generalize w5.heap.size + 1 = F at *
  clear B6 L5 C5 F5 T5
  go_loopg [] (n - u0) (fun gk wr => ∃ (used : Nat) (acc : List (Rc × Nat)) (L At : Value) (xs : List Rv), gk = n - used ∧ Hid (SI g F fb w n b h u0 used acc L At xs wr))
  case atStart => exact ⟨u0, [], _, _, [], rfl, I6⟩
  case round =>
    obtain ⟨used, acc, L, At, xs, hgk, hI⟩ := hrel
    obtain ⟨LA, LC, rfl⟩ := hI.out.found.rows.slice
    obtain ⟨AA, AC, rfl⟩ := hI.out.found.ats.slice
    have hun := hI.out.le
    have hcap := HR.out.cap
    have e0 := hI.out.fbx.cell 0
    have e6 := hI.out.fnd.cell 6
    simp at e0 e6
    have hsl := run_tail A n c used hun
    have HT := fun (htb : Tk g (acc.length + 1) wr.drew) (h : RowO g wr.drew (tailA A c used) (n - used) (c - used) (b.drop used)) => Lib.hid (take_any htb (by have := hI.out.cnt; omega) h (by omega))
    have hRO : RowO g wr.drew (tailA A c used) (n - used) (c - used) (b.drop used) := by
      have h0 := RowO.of_low HR.out (Nat.le_of_lt G1.out)
      exact (RowO.tail ⟨HR.out.below hI.out.below, h0.off⟩ hun).drew
    have HT := HT hI.out.tab.drew hRO
    unfold frV at *
    clear hRO I6
    have e0d : wr.drew.cell? ⟨fb, 0, none⟩ = some (.pointer (some ⟨g, 0, none⟩)) := e0
    have e6d : wr.drew.cell? ⟨F, 6, none⟩ = some (.int .i64 (used : Int)) := e6
    rcases htk : tk (b.drop used) with _ | ⟨y, k⟩
    · rw [htk] at HT
      have hone := Lib.hid (one_none htk)
      clear htk
      go_wp2_with fail
      refine wp_region_held_drew (S := fun W => W.cell? ⟨fb, 0, none⟩ = some (.pointer (some ⟨g, 0, none⟩)) ∧ W.cell? ⟨F, 6, none⟩ = some (.int .i64 (used : Int))) (by kernel_rfl) ⟨e0d, e6d⟩ (fun hHeld => ?_)
      refine Reg.tk 0 rfl ?_
      refine Reg.tk 1 rfl ?_
      refine Reg.tk 2 rfl ?_
      refine Reg.tk 3 rfl ?_
      refine Reg.tk 4 rfl ?_
      refine Reg.step 5 rfl (by kernel_rfl) (by rfl) (fun K hK => ?_)
      go_simp
      refine HT.out.mono ?_
      rintro e w7 ⟨⟨rfl, hK7⟩, hT7⟩
      obtain ⟨L7, X7, D7, C7, T7, N7⟩ := hI.out.keep ((Crc.Keep.refl g wr).drew.trans hK7) hT7 G1.out G2.out hF.out
      have hs6 := And.intro (X7.cell 0) (D7.cell 6)
      simp only [List.getElem?_toArray, List.getElem?_cons_zero, List.getElem?_cons_succ] at hs6
      refine hK.out _ _ hs6 (fun hHeld7 => ?_)
      obtain ⟨⟨c0, c1, c2, c3, c4, c5, c6⟩, f0, f1, f2, f3, f4, f5, f6⟩ := Cells.seven C7
      obtain ⟨⟨d0, d1, d2, d3, d4, d5, d6⟩, -⟩ := Cells.seven D7
      have L7 := Lib.hid L7
      have C7 := Lib.hid C7
      have N7 := Lib.hid N7
      clear hK K hHeld hK7 hT7 HT e0 e6 e0d e6d X7 D7 T7 hs6
      (try simp only [Act.put, List.setIfInBounds_toArray, List.set_cons_zero, List.set_cons_succ])
      refine Reg.tk 6 rfl ?_
      refine Reg.tk 7 rfl ?_
      refine Reg.tk 8 rfl ?_
      refine Reg.tk 9 rfl ?_
      refine Reg.tk 10 rfl ?_
      refine Reg.tk 11 rfl ?_
      refine Reg.tk 12 rfl ?_
      refine wpAnyH_done (by kernel_rfl) ?_ _
      clear hHeld7
      go_wp2_with fail
      (try simp only [Exit.inBlock, Exit.then])
      refine bodyPost_ret_by (results_cell_row rfl _ _ w.heap.size _ _ _ _ rfl (Cells.set7 C7.out _ _ _ _ _ _ _) Tryz.underlying51 rfl (by kernel_rfl)) rfl ?_
      exact scanned_end hI.out hone.out hh.out HR.out.len L7.out N7.out (by have := G1.out; have := G2.out; have := hF.out; omega) _ _ _ _ _ _ _
    · rw [htk] at HT
      obtain ⟨t5, t6, t7, t8⟩ := tk_one htk
      have hkn : used + k ≤ n := by rw [List.length_drop] at t6; have := HR.out.len; omega
      have HTR := fun A n c w (h : Row cb w A n c y) (hn : n ≤ 1000000) => Lib.hid (takeRec_any h hn)
      rcases htr : takeRec y with _ | r
      · rw [htr] at HTR
        have hone := Lib.hid (one_bad htk htr)
        clear htk htr t5 t6
        go_wp2_with fail
        refine wp_region_held_drew (S := fun W => W.cell? ⟨fb, 0, none⟩ = some (.pointer (some ⟨g, 0, none⟩)) ∧ W.cell? ⟨F, 6, none⟩ = some (.int .i64 (used : Int))) (by kernel_rfl) ⟨e0d, e6d⟩ (fun hHeld => ?_)
        refine Reg.tk 0 rfl ?_
        refine Reg.tk 1 rfl ?_
        refine Reg.tk 2 rfl ?_
        refine Reg.tk 3 rfl ?_
        refine Reg.tk 4 rfl ?_
        refine Reg.step 5 rfl (by kernel_rfl) (by rfl) (fun K hK => ?_)
        go_simp
        refine HT.out.mono ?_
        rintro e w7 ⟨⟨⟨Y, jy, dy, rfl, hO7⟩, hK7⟩, hT7⟩
        obtain ⟨L7, X7, D7, C7, T7, N7⟩ := hI.out.keep ((Crc.Keep.refl g wr).drew.trans hK7) hT7 G1.out G2.out hF.out
        have hs6 := And.intro (X7.cell 0) (D7.cell 6)
        simp only [List.getElem?_toArray, List.getElem?_cons_zero, List.getElem?_cons_succ] at hs6
        refine hK.out _ _ hs6 (fun hHeld7 => ?_)
        have L7 := Lib.hid L7
        have X7 := Lib.hid X7
        have D7 := Lib.hid D7
        have C7 := Lib.hid C7
        have T7 := Lib.hid T7
        have N7 := Lib.hid N7
        have hjy := hO7.len
        obtain ⟨Y', dy', e5, hrow⟩ := hO7.row (by omega)
        obtain ⟨rfl, -, rfl⟩ : Y = Y' ∧ jy = jy ∧ dy = dy' := by simpa using e5
        have R7 := Lib.hid hrow
        clear hK K hHeld hK7 hT7 HT e0 e6 e0d e6d hs6 e5 hrow hO7
        (try simp only [Act.put, List.setIfInBounds_toArray, List.set_cons_zero, List.set_cons_succ])
        refine Reg.tk 6 rfl ?_
        refine Reg.tk 7 rfl ?_
        refine Reg.tk 8 rfl ?_
        refine Reg.tk 9 rfl ?_
        refine Reg.tk 10 rfl ?_
        refine Reg.tk 11 rfl ?_
        refine Reg.tk 12 rfl ?_
        refine wpAnyH_done (by kernel_rfl) ?_ _
        clear hHeld7
        go_wp2_with fail
        refine (HTR Y jy dy w7 R7.out (by omega)).out.mono ?_
        rintro e w8 hq8
        obtain ⟨rfl, hb8⟩ : e = .returned (.tuple #[.agg #[.int .i64 0, .int .i64 0, .int .i64 0, .int .i64 0, .int .i64 0, .int .i64 0, .slice none 0 0], .bool false]) ∧ Below w7.heap.size w7 w8 := hq8
        have b9 : Below w7.heap.size w7 (w8.alloc (.cells #[.int .i64 0, .int .i64 0, .int .i64 0, .int .i64 0, .int .i64 0, .int .i64 0, .slice none 0 0] 57)) := hb8.alloc hb8.size _
        have L9 := Lib.hid (L7.out.trans (b9.mono L7.out.size))
        have D9 := Lib.hid (Cells.below D7.out b9)
        have C9 := Lib.hid (Cells.below C7.out b9)
        have N9 := Lib.hid (N7.out.below b9)
        obtain ⟨⟨c0, c1, c2, c3, c4, c5, c6⟩, f0, f1, f2, f3, f4, f5, f6⟩ := Cells.seven C9.out
        obtain ⟨⟨d0, d1, d2, d3, d4, d5, d6⟩, -⟩ := Cells.seven D9.out
        clear b9 hb8 L7 X7 D7 C7 T7 N7 R7 HTR
        go_wp2_with fail
        (try simp only [Exit.inBlock, Exit.then])
        refine bodyPost_ret_by (results_cell_row rfl _ _ w.heap.size _ _ _ _ rfl (Cells.set7 C9.out _ _ _ _ _ _ _) Tryz.underlying51 rfl (by kernel_rfl)) rfl ?_
        exact scanned_end hI.out hone.out hh.out HR.out.len L9.out N9.out (by have := G1.out; have := G2.out; have := hF.out; omega) _ _ _ _ _ _ _
      · rw [htr] at HTR
        have hone := Lib.hid (one_of htk htr)
        clear htk htr t5 t6
        go_wp2_with fail
        refine wp_region_held_drew (S := fun W => W.cell? ⟨fb, 0, none⟩ = some (.pointer (some ⟨g, 0, none⟩)) ∧ W.cell? ⟨F, 6, none⟩ = some (.int .i64 (used : Int))) (by kernel_rfl) ⟨e0d, e6d⟩ (fun hHeld => ?_)
        refine Reg.tk 0 rfl ?_
        refine Reg.tk 1 rfl ?_
        refine Reg.tk 2 rfl ?_
        refine Reg.tk 3 rfl ?_
        refine Reg.tk 4 rfl ?_
        refine Reg.step 5 rfl (by kernel_rfl) (by rfl) (fun K hK => ?_)
        go_simp
        refine HT.out.mono ?_
        rintro e w7 ⟨⟨⟨Y, jy, dy, rfl, hO7⟩, hK7⟩, hT7⟩
        obtain ⟨L7, X7, D7, C7, T7, N7⟩ := hI.out.keep ((Crc.Keep.refl g wr).drew.trans hK7) hT7 G1.out G2.out hF.out
        have hs6 := And.intro (X7.cell 0) (D7.cell 6)
        simp only [List.getElem?_toArray, List.getElem?_cons_zero, List.getElem?_cons_succ] at hs6
        refine hK.out _ _ hs6 (fun hHeld7 => ?_)
        have L7 := Lib.hid L7
        have X7 := Lib.hid X7
        have D7 := Lib.hid D7
        have C7 := Lib.hid C7
        have T7 := Lib.hid T7
        have N7 := Lib.hid N7
        have hjy := hO7.len
        obtain ⟨Y', dy', e5, hrow⟩ := hO7.row (by omega)
        obtain ⟨rfl, -, rfl⟩ : Y = Y' ∧ jy = jy ∧ dy = dy' := by simpa using e5
        have R7 := Lib.hid hrow
        clear hK K hHeld hK7 hT7 HT e0 e6 e0d e6d hs6 e5 hrow hO7
        (try simp only [Act.put, List.setIfInBounds_toArray, List.set_cons_zero, List.set_cons_succ])
        refine Reg.tk 6 rfl ?_
        refine Reg.tk 7 rfl ?_
        refine Reg.tk 8 rfl ?_
        refine Reg.tk 9 rfl ?_
        refine Reg.tk 10 rfl ?_
        refine Reg.tk 11 rfl ?_
        refine Reg.tk 12 rfl ?_
        refine wpAnyH_done (by kernel_rfl) ?_ _
        clear hHeld7
        go_wp2_with fail
        refine (HTR Y jy dy w7 R7.out (by omega)).out.mono ?_
        rintro e w8 ⟨⟨D, nn, cc, rfl, hO8⟩, hb8⟩
        obtain rfl : nn = r.data.length := hO8.len.symm
        unfold recV
        have b9 : Below w7.heap.size w7 (w8.alloc (.cells #[.int .i64 r.kind, .int .i64 r.lba, .int .i64 r.n, .int .i64 r.ver, .int .i64 r.zone, .int .i64 r.off, .slice D r.data.length cc] 57)) := hb8.alloc hb8.size _
        have L9 := Lib.hid (L7.out.trans (b9.mono L7.out.size))
        have X9 := Lib.hid (Cells.below X7.out b9)
        have D9 := Lib.hid (Cells.below D7.out b9)
        have C9 := Lib.hid (Cells.below C7.out b9)
        have N9 := Lib.hid (N7.out.below b9)
        have T9 := Lib.hid (T7.out.below b9)
        have O9 := Lib.hid ((hO8.mono (base' := F + 1) (Cells.lt D7.out)).alloc (.cells #[.int .i64 r.kind, .int .i64 r.lba, .int .i64 r.n, .int .i64 r.ver, .int .i64 r.zone, .int .i64 r.off, .slice D r.data.length cc] 57))
        have S9 := Lib.hid (Cells.lt D9.out)
        clear b9 hb8 hO8 L7 X7 D7 C7 T7 N7 R7 HTR
        obtain ⟨⟨d0, d1, d2, d3, d4, d5, d6⟩, h0, h1, h2, h3, h4, h5, h6⟩ := Cells.seven D9.out
        have hacc : acc.length ≤ 1000000 := by have := hI.out.cnt; omega
        go_wp2_with (first
          | (at_builtin
             refine wpList_append_wide Tryz.underlying33 info_rec rfl (by decide) rfl (.tmp 57) (.tmp 59) rfl rfl (F + 1) (.slice LA acc.length LC) acc.length (xs.flatMap cellsOf) rfl (N9.out.below ((Below.refl _ _).alloc (Nat.le_refl _) (.cells #[.int .i64 r.kind, .int .i64 r.lba, .int .i64 r.n, .int .i64 r.ver, .int .i64 r.zone, .int .i64 r.off, .slice D r.data.length cc] 57))).rows.1 _ 1 1 (cellsOf ⟨r, D, cc⟩) rfl rfl (rec_cells_new (w8.alloc (.cells #[.int .i64 r.kind, .int .i64 r.lba, .int .i64 r.n, .int .i64 r.ver, .int .i64 r.zone, .int .i64 r.off, .slice D r.data.length cc] 57)) ⟨r, D, cc⟩ _ (by simp)) (one_rec _) (by omega) (by omega) (by have := S9.out; simp at this ⊢; omega) ?_
             intro A' c' w11 ho11 hb11 hoth11
             have P11 := Lib.hid (found_rows (k := k) (N9.out.below ((Below.refl _ _).alloc (Nat.le_refl _) (.cells #[.int .i64 r.kind, .int .i64 r.lba, .int .i64 r.n, .int .i64 r.ver, .int .i64 r.zone, .int .i64 r.off, .slice D r.data.length cc] 57))) (O9.out.alloc (.cells #[.int .i64 r.kind, .int .i64 r.lba, .int .i64 r.n, .int .i64 r.ver, .int .i64 r.zone, .int .i64 r.off, .slice D r.data.length cc] 57)) ho11 hoth11)
             have Q11 := Lib.hid (((Below.refl F (w8.alloc (.cells #[.int .i64 r.kind, .int .i64 r.lba, .int .i64 r.n, .int .i64 r.ver, .int .i64 r.zone, .int .i64 r.off, .slice D r.data.length cc] 57))).alloc (Nat.le_of_lt S9.out) (.cells #[.int .i64 r.kind, .int .i64 r.lba, .int .i64 r.n, .int .i64 r.ver, .int .i64 r.zone, .int .i64 r.off, .slice D r.data.length cc] 57)).trans (hb11.mono (Nat.le_succ F)))
             have D11 : Cells w11 F _ _ := (hb11.block F (Nat.lt_succ_self F)).trans (Cells.below D9.out ((Below.refl _ _).alloc (Nat.le_refl _) (.cells #[.int .i64 r.kind, .int .i64 r.lba, .int .i64 r.n, .int .i64 r.ver, .int .i64 r.zone, .int .i64 r.off, .slice D r.data.length cc] 57)))
             obtain ⟨⟨i0, i1, i2, i3, i4, i5, i6⟩, j0, j1, j2, j3, j4, j5, j6⟩ := Cells.seven D11
             have E11 := Lib.hid D11
             have SF : Hid (F + 1 ≤ w11.heap.size) := Cells.lt D11
             clear ho11 hb11 hoth11 D11)
          | (at_builtin
             refine wpList_append_wide Tryz.underlying44 info_int rfl (by decide) rfl (.tmp 63) (.tmp 66) rfl rfl (F + 1) (.slice AA acc.length AC) acc.length ((starts u0 acc).map ci) rfl ((Owns.setCell P11.out.2.1 (p := ⟨F, 4, none⟩) (Nat.lt_succ_self F) (.slice A' (acc.length + 1) c')).alloc (.cells #[.int .i64 (used : Int)] 3)) _ 1 1 [.int .i64 (used : Int)] rfl rfl (int_cell_new (w11.setCell ⟨F, 4, none⟩ (.slice A' (acc.length + 1) c')) _ _ (by simp)) (by intro u hu; simp at hu; subst hu; rfl) (by omega) (by omega) (by have := SF.out; simp; omega) ?_
             intro A2 c2 w14 ho14 hb14 hoth14
             have Q14 := Lib.hid (((Q11.out.setCell (p := ⟨F, 4, none⟩) (Nat.le_refl F) (.slice A' (acc.length + 1) c')).alloc (by have := SF.out; simp; omega) (.cells #[.int .i64 (used : Int)] 3)).trans (hb14.mono (Nat.le_succ F)))
             have D14 : Cells w14 F _ _ := (hb14.block F (Nat.lt_succ_self F)).trans (Cells.below (E11.out.set_ 4 (.slice A' (acc.length + 1) c')) ((Below.refl _ _).alloc (Nat.le_refl _) (.cells #[.int .i64 (used : Int)] 3)))
             simp only [List.setIfInBounds_toArray, List.set_cons_zero, List.set_cons_succ] at D14
             have N14 := Lib.hid (found_more P11.out (k := k) hI.out.usedEq ho14 ((Below.refl _ _).alloc (Nat.le_refl _) (.cells #[.int .i64 (used : Int)] 3)) hoth14)
             obtain ⟨⟨k0, k1, k2, k3, k4, k5, k6⟩, m0, m1, m2, m3, m4, m5, m6⟩ := Cells.seven D14
             have E14 := Lib.hid D14
             clear ho14 hb14 hoth14 D14))
        go_roundg (n - (used + k))
        case measure => omega
        case rel =>
          refine ⟨used + k, acc ++ [(r, k)], .slice A' (acc.length + 1) c', .slice A2 (acc.length + 1) c2, xs ++ [⟨r, D, cc⟩], rfl, ?_⟩
          have D16 := (E14.out.set_ 5 (.slice A2 (acc.length + 1) c2)).set_ 6 (.int .i64 ((used : Int) + (k : Int)))
          simp only [List.setIfInBounds_toArray, List.set_cons_zero, List.set_cons_succ] at D16
          have hG1 := G1.out
          have hG2 := G2.out
          have hGF := hF.out
          exact SI.next hI.out hone.out hkn t8 L9.out X9.out C9.out T9.out ((Q14.out.setCell (p := ⟨F, 5, none⟩) (Nat.le_refl F) _).setCell (p := ⟨F, 6, none⟩) (Nat.le_refl F) _) (by rw [Int.natCast_add]; exact D16) ((N14.out.setCell (p := ⟨F, 5, none⟩) (Nat.lt_succ_self F) _).setCell (p := ⟨F, 6, none⟩) (Nat.lt_succ_self F) _) hG1 hG2 hGF
end Seg
end Go.Proofs.YtedandbkdjmfhaaGreat
/-
  WALKS OVER seg'S Seg.
-/
namespace Go.Proofs.YtedandbkdjmfhaaGreat
open Go.RowKit Mem
namespace Seg
open Wire

/-- The seven cells of record k, as the text reckons their addresses. -/
theorem RowR.seven {w : World} {A : Option Addr} {n c : Nat} {xs : List Rv} (h : RowR w A n c xs) {k : Nat} {x : Rv} (hx : xs[k]? = some x) : ∃ b o, A = some ⟨b, o, none⟩ ∧ b < w.heap.size ∧
    ∀ wr : World, wr.heap[b]? = w.heap[b]? → wr.cell? ⟨b, o + k * 7, none⟩ = some (.int .i64 x.r.kind) ∧ wr.cell? ⟨b, o + k * 7 + 1, none⟩ = some (.int .i64 x.r.lba) ∧ wr.cell? ⟨b, o + k * 7 + 2, none⟩ = some (.int .i64 x.r.n) ∧ wr.cell? ⟨b, o + k * 7 + 3, none⟩ = some (.int .i64 x.r.ver) ∧
      wr.cell? ⟨b, o + k * 7 + 4, none⟩ = some (.int .i64 x.r.zone) ∧ wr.cell? ⟨b, o + k * 7 + 5, none⟩ = some (.int .i64 x.r.off) ∧ wr.cell? ⟨b, o + k * 7 + 6, none⟩ = some (.slice x.D x.r.data.length x.c) := by
  have hk : k < xs.length := (List.getElem?_eq_some_iff.1 hx).1
  obtain ⟨b, o, e, hb, hc⟩ := h.at_ (by have := h.len; omega)
  refine ⟨b, o, e, hb, fun wr hw => ?_⟩
  have hcc : ∀ j v, (cellsOf x)[j]? = some v → wr.cell? ⟨b, o + (k * 7 + j), none⟩ = some v := fun j v hv => (World.cell?_of_block hw).trans (hc k x hx j v hv)
  exact ⟨hcc 0 _ rfl, hcc 1 _ rfl, hcc 2 _ rfl, hcc 3 _ rfl, hcc 4 _ rfl, hcc 5 _ rfl, hcc 6 _ rfl⟩

theorem recsB_at : ∀ (l : List Rc) (k : Nat) (r : Rc) (e : Nat), (∀ r ∈ l.take k, check r = 0) → l[k]? = some r → check r = e → e ≠ 0 → recsB l = ([], e) := by
  intro l
  induction l with
  | nil => intro k r e _ h; simp at h
  | cons a l ih =>
    intro k r e h1 h2 h3 h4
    rcases k with _ | k
    · simp only [List.getElem?_cons_zero, Option.some.injEq] at h2
      subst h2
      rw [recsB, if_neg (by omega), h3]
    · have ha := h1 a (by simp)
      rw [recsB, if_pos ha, ih k r e (fun x hx => h1 x (by simp [hx])) (by simpa using h2) h3 h4]
      simp [h4]

def goods (l : List Rc) : Prop := ∀ r ∈ l, fits (nums r)

end Seg
end Go.Proofs.YtedandbkdjmfhaaGreat
/-
  WALKS OVER THE DOCUMENT's OWN COMPARISONS: Same, SameRecs, SameFound, of things that are the same.
-/
namespace Go.Proofs.YtedandbkdjmfhaaGreat
open Go.RowKit Mem
namespace Seg
open Wire

set_option maxRecDepth 100000 in
set_option maxHeartbeats 1600000 in
theorem same_any {r : Rc} {A B : Option Addr} {n c d : Nat} {w : World} (h1 : Row cb w A n c r.data) (h2 : Row cb w B n d r.data) :
    Calls Tryz.prog 28 #[recV r A n c, recV r B n d] w fun e w' => e = .returned (.bool true) ∧ Below w.heap.size w w' := by
  obtain ⟨⟨X1, L1⟩⟩ : Nonempty (_ ∧ _) := ⟨two_boxes w r r A B n c n d⟩
  have s1 := run_str (h1.below L1)
  have s2 := run_str (h2.below L1)
  have L1 := Lib.hid L1
  clear X1 h1 h2
  unfold recV
  generalize str r.data = x at *
  go_enter Tryz.func28, Tryz.ntmps28
  go_wp2_with fail
  go_ret
  exact ⟨rfl, L1.out⟩

set_option maxRecDepth 100000 in
set_option maxHeartbeats 3200000 in
theorem sameRecs_any {A B : Option Addr} {n c d : Nat} {xs ys : List Rv} {w : World} (h1 : RowR w A n c xs) (h2 : RowR w B n d ys) (he : xs.map Rv.r = ys.map Rv.r) :
    Calls Tryz.prog 12 #[.slice A n c, .slice B n d] w fun e w' => e = .returned (.bool true) ∧ Below w.heap.size w w' := by
  have H1 := Lib.hid h1
  have H2 := Lib.hid h2
  have HE := Lib.hid he
  have hbig := h1.big
  clear h1 h2 he
  have HS := fun (r : Rc) A B n c d w (h1 : Row cb w A n c r.data) (h2 : Row cb w B n d r.data) => Lib.hid (same_any h1 h2)
  unfold recV at HS
  go_enter Tryz.func12, Tryz.ntmps12
  go_wp2_with fail
  go_loopw [13] (fun i wr => ∃ k : Nat, i = .int .i64 k ∧ k ≤ n ∧ Hid (Below w.heap.size w wr)) (fun i _ => n - (intOf i).toNat)
  case atStart => exact ⟨0, rfl, by omega, Below.refl _ _⟩
  case round =>
    obtain ⟨k, rfl, hk, hB⟩ := hrel
    by_cases hlt : k < n
    · obtain ⟨x, hx⟩ := H1.out.get hlt
      obtain ⟨y, hy⟩ := H2.out.get hlt
      have hxy : y.r = x.r := by
        have h1 : (xs.map Rv.r)[k]? = some x.r := by rw [List.getElem?_map, hx]; rfl
        rw [HE.out, List.getElem?_map, hy] at h1
        exact Option.some.inj h1
      obtain ⟨b1, o1, rfl, hb1, hc1⟩ := H1.out.seven hx
      obtain ⟨b2, o2, rfl, hb2, hc2⟩ := H2.out.seven hy
      have hS : Hid (∀ W : World, W.heap[b1]? = w.heap[b1]? → W.heap[b2]? = w.heap[b2]? → (W.cell? ⟨b1, o1 + k * 7, none⟩ = some (.int .i64 x.r.kind) ∧ W.cell? ⟨b1, o1 + k * 7 + 1, none⟩ = some (.int .i64 x.r.lba) ∧ W.cell? ⟨b1, o1 + k * 7 + 2, none⟩ = some (.int .i64 x.r.n) ∧ W.cell? ⟨b1, o1 + k * 7 + 3, none⟩ = some (.int .i64 x.r.ver) ∧
          W.cell? ⟨b1, o1 + k * 7 + 4, none⟩ = some (.int .i64 x.r.zone) ∧ W.cell? ⟨b1, o1 + k * 7 + 5, none⟩ = some (.int .i64 x.r.off) ∧ W.cell? ⟨b1, o1 + k * 7 + 6, none⟩ = some (.slice x.D x.r.data.length x.c)) ∧
          (W.cell? ⟨b2, o2 + k * 7, none⟩ = some (.int .i64 x.r.kind) ∧ W.cell? ⟨b2, o2 + k * 7 + 1, none⟩ = some (.int .i64 x.r.lba) ∧ W.cell? ⟨b2, o2 + k * 7 + 2, none⟩ = some (.int .i64 x.r.n) ∧ W.cell? ⟨b2, o2 + k * 7 + 3, none⟩ = some (.int .i64 x.r.ver) ∧
          W.cell? ⟨b2, o2 + k * 7 + 4, none⟩ = some (.int .i64 x.r.zone) ∧ W.cell? ⟨b2, o2 + k * 7 + 5, none⟩ = some (.int .i64 x.r.off) ∧ W.cell? ⟨b2, o2 + k * 7 + 6, none⟩ = some (.slice y.D x.r.data.length y.c))) := fun W e1 e2 => by
        have q := And.intro (hc1 W e1) (hc2 W e2)
        rwa [hxy] at q
      have D1 := Lib.hid ((H1.out.data x (List.mem_of_getElem? hx)).below hB.out)
      have D2 := (H2.out.data y (List.mem_of_getElem? hy)).below hB.out
      rw [hxy] at D2
      have D2 := Lib.hid D2
      have hs := Lib.hid ((HS x.r x.D y.D x.r.data.length x.c y.c wr.drew D1.out.drew D2.out.drew).out)
      have hk0 : (0 : Int) ≤ (k : Int) := by omega
      have hk1 : (k : Int) < (n : Int) := by omega
      clear hc1 hc2 hx hy hxy HS
      go_wp2_with fail
      refine wp_region_held_drew (S := fun W => (W.cell? ⟨b1, o1 + k * 7, none⟩ = some (.int .i64 x.r.kind) ∧ W.cell? ⟨b1, o1 + k * 7 + 1, none⟩ = some (.int .i64 x.r.lba) ∧ W.cell? ⟨b1, o1 + k * 7 + 2, none⟩ = some (.int .i64 x.r.n) ∧ W.cell? ⟨b1, o1 + k * 7 + 3, none⟩ = some (.int .i64 x.r.ver) ∧
          W.cell? ⟨b1, o1 + k * 7 + 4, none⟩ = some (.int .i64 x.r.zone) ∧ W.cell? ⟨b1, o1 + k * 7 + 5, none⟩ = some (.int .i64 x.r.off) ∧ W.cell? ⟨b1, o1 + k * 7 + 6, none⟩ = some (.slice x.D x.r.data.length x.c)) ∧
          (W.cell? ⟨b2, o2 + k * 7, none⟩ = some (.int .i64 x.r.kind) ∧ W.cell? ⟨b2, o2 + k * 7 + 1, none⟩ = some (.int .i64 x.r.lba) ∧ W.cell? ⟨b2, o2 + k * 7 + 2, none⟩ = some (.int .i64 x.r.n) ∧ W.cell? ⟨b2, o2 + k * 7 + 3, none⟩ = some (.int .i64 x.r.ver) ∧
          W.cell? ⟨b2, o2 + k * 7 + 4, none⟩ = some (.int .i64 x.r.zone) ∧ W.cell? ⟨b2, o2 + k * 7 + 5, none⟩ = some (.int .i64 x.r.off) ∧ W.cell? ⟨b2, o2 + k * 7 + 6, none⟩ = some (.slice y.D x.r.data.length y.c))) (by kernel_rfl) (hS.out wr.drew (hB.out.block b1 hb1) (hB.out.block b2 hb2)) (fun hHeld => ?_)
      refine Reg.tk 0 rfl ?_
      refine Reg.tk 1 rfl ?_
      refine Reg.tk 2 rfl ?_
      refine Reg.tk 3 rfl ?_
      refine Reg.tk 4 rfl ?_
      refine Reg.tk 5 rfl ?_
      refine Reg.tk 6 rfl ?_
      refine Reg.tk 7 rfl ?_
      refine Reg.step 8 rfl (by kernel_rfl) (by rfl) (fun K hK => ?_)
      go_simp
      refine hs.out.mono ?_
      rintro e w2 ⟨rfl, hb⟩
      have L2 := Lib.hid (hB.out.trans ((Below.refl _ wr).drew.trans (hb.mono hB.out.size)))
      refine hK.out _ _ (hS.out w2 (L2.out.block b1 hb1) (L2.out.block b2 hb2)) (fun hHeld2 => ?_)
      clear hK K hHeld hb
      (try simp only [Act.put, List.setIfInBounds_toArray, List.set_cons_zero, List.set_cons_succ])
      refine Reg.tk 9 rfl ?_
      refine wpAnyH_done (by kernel_rfl) ?_ _
      clear hHeld2
      go_wp2_with fail
      go_roundw
      case rel => exact ⟨k + 1, by go_num, by omega, L2.out⟩
      case measure => simp [intOf]; omega
    · go_wp2_with fail
      go_ret
      exact ⟨rfl, hB.out⟩

/-- Found, as a value. -/
def fndV (hd : Bool) (h : Hdr) (L At : Value) (u : Int) : Value := .agg #[.bool hd, .int .i64 h.host, .int .i64 h.epoch, .int .i64 h.seq, L, At, .int .i64 u]

end Seg
end Go.Proofs.YtedandbkdjmfhaaGreat
/-
  WHAT THE STATEMENTS OF seg ASK FIRST: the chapter's example (live), and how great the records are (Big).
-/
namespace Go.Proofs.YtedandbkdjmfhaaGreat
open Go.RowKit Mem
namespace Seg
open Wire

/-! ### A header's frame at the beginning -/
theorem headAt_seg (h : Hdr) (hf : fits (hnums h)) (hn : nn (hnums h)) (rest : List B8) : headAt (frame (headX h) ++ rest) = some (h, (frame (headX h)).length) := by
  unfold headAt
  rw [tk_frame _ rest (by have := headX_len h hf hn; omega)]
  simp only [takeHead_headX h hf hn]
theorem headAt_cut (h : Hdr) (hf : fits (hnums h)) (hn : nn (hnums h)) (j : Nat) (hj : j < (frame (headX h)).length) : headAt ((frame (headX h)).take j) = none := by
  unfold headAt
  rw [tk_cut _ j (by have := headX_len h hf hn; omega) hj]
theorem headAt_one {b : List B8} {h : Hdr} {u : Nat} (hh : headAt b = some (h, u)) : frame (headX h) = b.take u ∧ u ≤ b.length ∧ nn (hnums h) ∧ fits (hnums h) ∧ 5 ≤ u := by
  unfold headAt at hh
  split at hh
  · rename_i x k ht
    split at hh
    · rename_i h' hth
      simp only [Option.some.injEq, Prod.mk.injEq] at hh
      obtain ⟨rfl, rfl⟩ := hh
      obtain ⟨t1, t2, t3, t4⟩ := tk_one ht
      obtain ⟨a1, a2, a3⟩ := takeHead_one hth
      exact ⟨by rw [a1]; exact t1, t2, a2, a3, t4⟩
    · cases hh
  · cases hh
theorem sized_total (l : List Rc) : total (sized l) = (frames l).length := by
  induction l with
  | nil => rfl
  | cons r l ih =>
    rw [frames_cons, List.length_append, ← ih]
    simp [total, sized]
theorem sized_fst (l : List Rc) : (sized l).map (·.1) = l := by simp [sized, Function.comp_def]
theorem sized_len (l : List Rc) : (sized l).length = l.length := by simp [sized]

theorem scans_count {b : List B8} {l : List (Rc × Nat)} (h : Scans b l) : 5 * l.length ≤ total l := by
  induction h with
  | stop _ => simp [total]
  | step h _ ih =>
    obtain ⟨o1, o2, o3, -⟩ := one_one h
    simp [total] at *
    omega
/-- What Scan tells of bytes that begin with a header. -/
def Fnd (h : Hdr) (u0 : Nat) (b : List B8) (w : World) (en : Ending) (w' : World) : Prop :=
  ∃ acc xs LA LC AA AC, Scans (b.drop u0) acc ∧ u0 + total acc ≤ b.length ∧ en = .returned (.agg #[.bool true, .int .i64 h.host, .int .i64 h.epoch, .int .i64 h.seq, .slice LA acc.length LC, .slice AA acc.length AC, .int .i64 ((u0 + total acc : Nat) : Int)]) ∧
    RowR w' LA acc.length LC xs ∧ Row ci w' AA acc.length AC (starts u0 acc) ∧ xs.map Rv.r = acc.map (·.1) ∧ Below w.heap.size w w'
theorem scan_found {A : Option Addr} {n c : Nat} {b : List B8} {w : World} {h : Hdr} {u0 : Nat} (hr : Row cb w A n c b) (hn : n ≤ 1000000) (hh : headAt b = some (h, u0)) :
    Calls Tryz.prog 11 #[.slice A n c] w (Fnd h u0 b w) := by
  have hcall : Calls Tryz.prog 11 #[.slice A n c] w (Scanned b w) := by
    have hh2 := hh
    unfold headAt at hh2
    split at hh2
    · rename_i x k ht
      split at hh2
      · rename_i h' hth
        exact scan_some hr hn ht hth
      · cases hh2
    · cases hh2
  refine hcall.mono ?_
  intro e w' hS
  unfold Scanned at hS
  rw [hh] at hS
  obtain ⟨⟨acc, L, At, xs, h1, h2, rfl, h4⟩, h5⟩ := hS
  obtain ⟨LA, LC, rfl⟩ := h4.rows.slice
  obtain ⟨AA, AC, rfl⟩ := h4.ats.slice
  have hl := hr.len
  have hc := scans_count h1
  have hb : acc.length ≤ 1000000 := by omega
  have hd : ∀ x ∈ xs, Row cb w' x.D x.r.data.length x.c x.r.data := by
    intro x hx
    have hx2 : x.r ∈ acc.map (·.1) := by rw [← h4.recs]; exact List.mem_map_of_mem hx
    have hg := (scans_one h1).2.1 _ hx2
    obtain ⟨A', c', e', hr⟩ := (h4.data x hx).row (by have := (check_ok hg.1).2; omega)
    injection e' with e1 e2 e3
    subst e1 e3
    exact hr
  obtain ⟨A1, c1, e1, hrow⟩ := h4.rows.row (by omega) hd
  injection e1 with e1 e2 e3
  subst e1 e3
  obtain ⟨A2, c2, e2, hrow2⟩ := h4.ats.row (by omega)
  injection e2 with e1 e2 e3
  subst e1 e3
  exact ⟨acc, xs, LA, LC, AA, AC, h1, h2, rfl, hrow, hrow2, h4.recs, h5⟩
theorem scan_nothing {A : Option Addr} {n c : Nat} {b : List B8} {w : World} (hr : Row cb w A n c b) (hn : n ≤ 1000000) (hh : headAt b = none) :
    Calls Tryz.prog 11 #[.slice A n c] w fun e w' => e = .returned (.agg #[.bool false, .int .i64 0, .int .i64 0, .int .i64 0, .slice none 0 0, .slice none 0 0, .int .i64 0]) ∧ Below w.heap.size w w' := by
  refine (scan_none hr hn hh).mono ?_
  intro e w' hS
  unfold Scanned at hS
  rw [hh] at hS
  exact hS
theorem gave_row {l : List B8} {w w' : World} {b : Nat} {X : Option Addr} {k c : Nat} (h : Owns cb 5 b w' (.slice X k c) k l) (hn : l.length ≤ 140737488351232) : Row cb w' X l.length c l ∧ k = l.length := by
  have hk := h.len
  obtain ⟨X', c', e, hr⟩ := h.row (by omega)
  injection e with e1 e2 e3
  subst e1 e3 hk
  exact ⟨hr, rfl⟩

/-! ### The example -/
def exH : Hdr := ⟨1, 2, 3⟩
def exR : Rc := ⟨2, 4, 5, 6, 0, 0, []⟩
theorem exH_nn : nn (hnums exH) := by intro z hz; simp [hnums, exH] at hz; omega
theorem exH_fits : fits (hnums exH) := by intro z hz; simp [hnums, exH] at hz; omega
theorem exR_fits : fits (nums exR) := by intro z hz; simp [nums, exR] at hz; omega
theorem exR_check : check exR = 0 := by decide
theorem exR_good : good exR := ⟨exR_check, exR_fits⟩
theorem enc_one {n : Nat} (h : n < 128) : (enc n).length = 1 := by rw [enc_lt h]; rfl
theorem exH_len : (frame (headX exH)).length = 9 := by
  have h : (headX exH).length = 4 := by simp [headX, hnums, exH, encs, enc_lt]
  rw [frame_len, h, enc_one (by omega)]
theorem exR_len : (frame (recX exR)).length = 12 := by
  have h : (recX exR).length = 7 := by simp [recX, nums, exR, encs, enc_lt, encV]
  rw [frame_len, h, enc_one (by omega)]
theorem exB_len : (frame (headX exH) ++ frames [exR]).length = 21 := by
  rw [List.length_append, exH_len]
  simp [frames, exR_len]
theorem ex_segB : segB exH [exR] = (frame (headX exH) ++ frames [exR], 0) := by
  unfold segB
  rw [if_pos exH_nn, recsB_ok _ (by intro r hr; simp at hr; subst hr; exact exR_check)]
  simp
theorem ex_headB : headB exH = (frame (headX exH), 0) := by unfold headB; rw [if_pos exH_nn]
theorem ex_headAt : headAt (frame (headX exH) ++ frames [exR]) = some (exH, 9) := by rw [headAt_seg _ exH_fits exH_nn, exH_len]
theorem ex_scan {acc : List (Rc × Nat)} (h : Scans ((frame (headX exH) ++ frames [exR]).drop 9) acc) : acc = sized [exR] := by
  have e : (frame (headX exH) ++ frames [exR]).drop 9 = frames [exR] ++ [] := by rw [← exH_len, List.drop_left, List.append_nil]
  rw [e] at h
  exact h.det (scans_frames [] (by simpa using one_zeros 0) [exR] (by intro r hr; simp at hr; subst hr; exact exR_good))
theorem ex_cut : headAt ((frame (headX exH)).take 8) = none := headAt_cut _ exH_fits exH_nn 8 (by rw [exH_len]; omega)

theorem exRow (w : World) {b : Nat} (hb : b = w.heap.size) : RowR (w.alloc (.cells #[.int .i64 2, .int .i64 4, .int .i64 5, .int .i64 6, .int .i64 0, .int .i64 0, .slice none 0 0] 57)) (some ⟨b, 0, none⟩) 1 1 [⟨exR, none, 0⟩] := by
  subst hb
  refine ⟨rfl, by omega, by omega, fun _ => ⟨_, _, rfl, by simp, fun i x hi j v hv => ?_⟩, fun x hx => ?_⟩
  · have : i = 0 := by
      rcases i with _ | i
      · rfl
      · simp at hi
    subst this
    simp only [List.getElem?_cons_zero, Option.some.injEq] at hi
    subst hi
    have := rec_cells_new w ⟨exR, none, 0⟩ 57 rfl j v hv
    rw [add_none] at this
    simpa [exR] using this
  · simp at hx
    subst hx
    exact Row.nil cb _

end Seg
end Go.Proofs.YtedandbkdjmfhaaGreat
