/-
  SEVERAL TEXTS IN ONE FILE: SegOpen, SegBig, SegZeros, SegPre, PkPlain, OwnS, OwnO.
-/
import Derived.Test.YtedandbkdjmfhaaGreatJ03
import Derived.Test.YtedandbkdjmfhaaGreatJ16
import Derived.Deep.Fields
import Derived.Deep.Slices
import Derived.Lib.Hide
import Derived.WalkKit
set_option linter.unusedSimpArgs false
set_option linter.unusedVariables false
/-
  WHAT A LAW'S ARGUMENTS SAY IN PLAIN: a header, a record, a slice of records.
-/
namespace Go.Proofs.YtedandbkdjmfhaaGreat
open Go.ChangeShapes Go.WideShapes Go.ChangeAt Go.RowKit Mem
namespace Args
open Seg Wire

variable {H : Type} {enc : TypeId × Value → H} {W : World}

theorem bulk_one (d : DataW H) : 1 ≤ Rows.uptoBulk d := by
  cases d with
  | lit l => cases l <;> simp [Rows.uptoBulk]
  | _ => simp [Rows.uptoBulk]
theorem bulk_len (l : List (DataW H)) : l.length ≤ Rows.uptoBulkAll l := by
  induction l with
  | nil => simp [Rows.uptoBulkAll]
  | cons x r ih => have := bulk_one x; simp only [Rows.uptoBulkAll, List.length_cons]; omega
theorem bulk_slice (e s : List (DataW H)) : e.length + s.length + 1 ≤ Rows.uptoBulk (.slice e s) := by
  have h1 := bulk_len e
  have h2 := bulk_len s
  simp only [Rows.uptoBulk]
  omega

theorem raw_bytes {fuel : Nat} {cs : List Value} {x : DataW H × List MemPlace} (hf : DataW.trod enc Tryz.prog W 0 (fun _ => true) true fuel 32 cs = some x) (hs : ∀ q ∈ x.1.weights Tryz.prog 32, q ≤ reachBytes) :
    ∃ A n c l, cs = [.slice A n c] ∧ Row cb W A n c l ∧ l.length + 1 ≤ Rows.uptoBulk x.1 := by
  rcases open_ints Tryz.underlying32 Tryz.underlying5 (by kernel_rfl) hf with ⟨hcs, _⟩ | ⟨a, l, c, zs, hcs, _, hl, hm, hz, hx, hcell, hwz⟩
  · exact ⟨none, 0, 0, [], hcs, Row.nil _ W, by simpa using bulk_one x.1⟩
  · have hz : zs.length = c := by simpa using hz
    have hb : Tryz.prog.bytesOf 5 = 1 := by kernel_rfl
    have hw := hs (zs.length * 1) (by
      rw [hx]
      simp [DataW.weights, Tryz.underlying32, lits, hb]
      left; omega)
    have hr : l ≤ 140737488351232 := by simp only [reachBytes] at hw; omega
    have hrow := row_of (W := W) (k := .u8) (x := a) (n := l) (c := c) (zs := zs) (by omega) (by omega) hr hcell
    have hbk : ((zs.take l).map byte).length + 1 ≤ Rows.uptoBulk x.1 := by
      rw [hx]
      refine Nat.le_trans ?_ (bulk_slice _ _)
      simp [lits]
    refine ⟨some a, l, c, (zs.take l).map byte, hcs, ⟨by simp; omega, by omega, hr, fun h0 => ?_⟩, hbk⟩
    obtain ⟨b, o, e, hlt, hc⟩ := hrow.at_ h0
    refine ⟨b, o, e, hlt, fun i q hi => ?_⟩
    rw [List.getElem?_map] at hi
    obtain ⟨z, hz1, rfl⟩ := Option.map_eq_some_iff.1 hi
    rw [hc i z hz1]
    unfold cb
    rw [u_byte (hwz z (List.mem_of_mem_take (List.mem_of_getElem? hz1)))]

set_option maxRecDepth 100000 in
/-- A record's seven cells. -/
theorem raw_rec {fuel : Nat} {cs : List Value} {x : DataW H × List MemPlace} (hf : DataW.trod enc Tryz.prog W 0 (fun _ => true) true fuel 57 cs = some x) (hl : cs.length = 7) (hs : ∀ q ∈ x.1.weights Tryz.prog 57, q ≤ reachBytes) :
    ∃ v : Rv, cs = cellsOf v ∧ Row cb W v.D v.r.data.length v.c v.r.data ∧ fits (nums v.r) ∧ v.r.data.length + 8 ≤ Rows.uptoBulk x.1 := by
  have hu := Tryz.underlying57
  match cs, hl with
  | [c0, c1, c2, c3, c4, c5, c6], _ =>
    obtain ⟨xs, n, _, hx, _, hlen, hg⟩ := DataW.trod_struct hu hf
    have hxl : xs.length = 7 := hlen
    match xs, hxl with
    | [y0, y1, y2, y3, y4, y5, y6], _ =>
      have o3 : Tryz.prog.cellsOf 3 = 1 := by kernel_rfl
      have o27 : Tryz.prog.cellsOf 32 = 1 := by kernel_rfl
      have g0 := hg 0 _ rfl
      have g1 := hg 1 _ rfl
      have g2 := hg 2 _ rfl
      have g3 := hg 3 _ rfl
      have g4 := hg 4 _ rfl
      have g5 := hg 5 _ rfl
      have g6 := hg 6 _ rfl
      simp [o3, o27] at g0 g1 g2 g3 g4 g5 g6
      obtain ⟨z0, h0, -, w0⟩ := DataW.trod_int Tryz.underlying3 g0
      obtain ⟨z1, h1, -, w1⟩ := DataW.trod_int Tryz.underlying3 g1
      obtain ⟨z2, h2, -, w2⟩ := DataW.trod_int Tryz.underlying3 g2
      obtain ⟨z3, h3, -, w3⟩ := DataW.trod_int Tryz.underlying3 g3
      obtain ⟨z4, h4, -, w4⟩ := DataW.trod_int Tryz.underlying3 g4
      obtain ⟨z5, h5, -, w5⟩ := DataW.trod_int Tryz.underlying3 g5
      simp only [List.cons.injEq, and_true] at h0 h1 h2 h3 h4 h5
      subst h0 h1 h2 h3 h4 h5
      subst hx
      obtain ⟨A, na, ca, l, h6, r6, k6⟩ := raw_bytes g6 (fun q hq => by
        refine hs q ?_
        simp only [DataW.weights, hu]
        exact DataW.weights_mem_each (j := 6) rfl rfl q hq)
      simp only [List.cons.injEq, and_true] at h6
      subst h6
      obtain rfl : na = l.length := r6.len.symm
      refine ⟨⟨⟨z0, z1, z2, z3, z4, z5, l⟩, A, ca⟩, rfl, r6, fun z hz => ?_, ?_⟩
      rotate_left
      · have j0 := bulk_one y0.1
        have j1 := bulk_one y1.1
        have j2 := bulk_one y2.1
        have j3 := bulk_one y3.1
        have j4 := bulk_one y4.1
        have j5 := bulk_one y5.1
        simp only [List.map_cons, List.map_nil, Rows.uptoBulk, Rows.uptoBulkAll]
        omega
      have b0 := (i64_of w0).2
      have b1 := (i64_of w1).2
      have b2 := (i64_of w2).2
      have b3 := (i64_of w3).2
      have b4 := (i64_of w4).2
      have b5 := (i64_of w5).2
      simp [nums] at hz
      omega

set_option maxRecDepth 100000 in
theorem open_rec {v : Value} {d : DataW H} {p : List MemPlace} {base : Nat} (hok : Value.okWide Tryz.prog W .any base 57 v) (h : DataW.Trod enc Tryz.prog W 0 (fun _ => true) true 57 v d p)
    (hs : ∀ q ∈ d.weights Tryz.prog 57, q ≤ reachBytes) : ∃ r D c, v = recV r D r.data.length c ∧ Row cb W D r.data.length c r.data ∧ fits (nums r) := by
  have hu := Tryz.underlying57
  obtain ⟨cs, rfl, hsz⟩ := okWide_struct hu hok
  have hC : Tryz.prog.cellsOf 57 = 7 := by kernel_rfl
  obtain ⟨l⟩ := cs
  have hl7 : l.length = 7 := by simpa [hC] using hsz
  obtain ⟨fuel, hf⟩ := h
  obtain ⟨v, hv, h2, h3, -⟩ := raw_rec hf hl7 hs
  have hv : l = cellsOf v := hv
  subst hv
  exact ⟨v.r, v.D, v.c, rfl, h2, h3⟩

set_option maxRecDepth 100000 in
theorem open_hdr {v : Value} {d : DataW H} {p : List MemPlace} {base : Nat} (hok : Value.okWide Tryz.prog W .any base 23 v) (h : DataW.Trod enc Tryz.prog W 0 (fun _ => true) true 23 v d p) :
    ∃ r, v = hdV r ∧ fits (hnums r) := by
  have hu := Tryz.underlying23
  obtain ⟨cs, rfl, hsz⟩ := okWide_struct hu hok
  have hC : Tryz.prog.cellsOf 23 = 3 := by kernel_rfl
  obtain ⟨l⟩ := cs
  have hl3 : l.length = 3 := by simpa [hC] using hsz
  match l, hl3 with
  | [c0, c1, c2], _ =>
    obtain ⟨fuel, hf⟩ := h
    obtain ⟨xs, n, _, hx, _, hlen, hg⟩ := DataW.trod_struct hu hf
    have hxl : xs.length = 3 := hlen
    match xs, hxl with
    | [y0, y1, y2], _ =>
      have o3 : Tryz.prog.cellsOf 3 = 1 := by kernel_rfl
      have g0 := hg 0 _ rfl
      have g1 := hg 1 _ rfl
      have g2 := hg 2 _ rfl
      simp [Value.cells, o3] at g0 g1 g2
      obtain ⟨z0, h0, -, w0⟩ := DataW.trod_int Tryz.underlying3 g0
      obtain ⟨z1, h1, -, w1⟩ := DataW.trod_int Tryz.underlying3 g1
      obtain ⟨z2, h2, -, w2⟩ := DataW.trod_int Tryz.underlying3 g2
      simp only [List.cons.injEq, and_true] at h0 h1 h2
      subst h0 h1 h2
      refine ⟨⟨z0, z1, z2⟩, rfl, fun z hz => ?_⟩
      have b0 := (i64_of w0).2
      have b1 := (i64_of w1).2
      have b2 := (i64_of w2).2
      simp [hnums] at hz
      omega

theorem weights_all {t : TypeId} : ∀ (l : List (DataW H)) (e : DataW H), e ∈ l → ∀ q ∈ e.weights Tryz.prog t, q ∈ DataW.weightsAll Tryz.prog t l := by
  intro l
  induction l with
  | nil => intro e he; cases he
  | cons y l ih =>
    intro e he q hq
    simp only [DataW.weightsAll, List.mem_append]
    rcases List.mem_cons.1 he with rfl | he
    · exact .inl hq
    · exact .inr (ih e he q hq)

theorem bulk_sum : ∀ (xs : List Rv) (ds : List (DataW H)), xs.length = ds.length → (∀ (i : Nat) (x : Rv) (e : DataW H), xs[i]? = some x → ds[i]? = some e → x.r.data.length + 8 ≤ Rows.uptoBulk e) →
    ((xs.map Rv.r).map fun r => r.data.length + 20).sum ≤ 3 * Rows.uptoBulkAll ds := by
  intro xs
  induction xs with
  | nil => intro ds _ _; simp
  | cons x xs ih =>
    intro ds hl h
    rcases ds with _ | ⟨e, ds⟩
    · simp at hl
    · have h1 := h 0 x e rfl rfl
      have h2 := ih ds (by simpa using hl) (fun i y f hy hf => h (i + 1) y f (by simpa using hy) (by simpa using hf))
      simp only [List.map_cons, List.sum_cons, Rows.uptoBulkAll]
      omega

set_option maxRecDepth 100000 in
theorem open_recs {v : Value} {d : DataW H} {p : List MemPlace} {base : Nat} (hok : Value.okWide Tryz.prog W .any base 33 v) (h : DataW.Trod enc Tryz.prog W 0 (fun _ => true) true 33 v d p)
    (hs : ∀ q ∈ d.weights Tryz.prog 33, q ≤ reachBytes) : ∃ A n c xs, v = .slice A n c ∧ RowR W A n c xs ∧ goods (xs.map Rv.r) ∧ ((xs.map Rv.r).map fun r => r.data.length + 20).sum ≤ 3 * Rows.uptoBulk d := by
  have hu := Tryz.underlying33
  obtain ⟨a0, len0, cap0, rfl⟩ := okWide_slice hu hok
  have hC : Tryz.prog.cellsOf 57 = 7 := by kernel_rfl
  have hB : Tryz.prog.bytesOf 57 = 72 := by kernel_rfl
  obtain ⟨fuel, hf⟩ := h
  rcases Go.Deep.open_slice hu hf with ⟨hcs, _⟩ | ⟨a, len, cap, m, n, D, Pl, hcs, hb, hl, hm, hmm, hx, hi⟩
  · simp [Value.cells] at hcs
    obtain ⟨rfl, rfl, rfl⟩ := hcs
    exact ⟨none, 0, 0, [], rfl, ⟨rfl, by omega, by omega, fun h => absurd h (by omega), by simp⟩, (by intro r hr; simp at hr), by simp⟩
  · simp [Value.cells] at hcs
    obtain ⟨rfl, rfl, rfl⟩ := hcs
    simp only [if_true] at hmm
    subst hmm
    simp only [Prod.mk.injEq] at hx
    obtain ⟨rfl, rfl⟩ := hx
    have hw := hs ((len0 + (m - len0)) * 72) (by simp [DataW.weights, hu, hB])
    have hbig : len0 ≤ 1954687338211 := by simp only [reachBytes] at hw; omega
    rcases Nat.eq_zero_or_pos len0 with h0 | h0
    · subst h0
      exact ⟨_, 0, m, [], rfl, ⟨rfl, by omega, by omega, fun h => absurd h (by omega), by simp⟩, (by intro r hr; simp at hr), by simp⟩
    · have hex : ∀ i, i < len0 → ∃ v : Rv, (∀ j u, (cellsOf v)[j]? = some u → W.cell? (a.add (i * 7 + j)) = some u) ∧ Row cb W v.D v.r.data.length v.c v.r.data ∧ fits (nums v.r) ∧ v.r.data.length + 8 ≤ Rows.uptoBulk (D i) := by
        intro i hil
        obtain ⟨cs', hc, ht⟩ := hi i (by omega)
        rw [hC] at hc
        obtain ⟨_, hcl, hat⟩ := World.cells?_some hc
        obtain ⟨v, rfl, h2, h3, h4⟩ := raw_rec ht hcl (fun q hq => by
          refine hs q ?_
          simp only [DataW.weights, hu, List.mem_cons, List.mem_append]
          exact .inr (.inl (weights_all _ _ (List.mem_map.2 ⟨i, List.mem_range.2 hil, rfl⟩) q hq)))
        refine ⟨v, fun j u hj => ?_, h2, h3, h4⟩
        have hjl : j < 7 := (List.getElem?_eq_some_iff.1 hj).1
        rw [← Go.Deep.add_add, hat j hjl, hj]
      obtain ⟨f, hf⟩ := Classical.axiomOfChoice (r := fun (i : Fin len0) (v : Rv) => (∀ j u, (cellsOf v)[j]? = some u → W.cell? (a.add (i.1 * 7 + j)) = some u) ∧ Row cb W v.D v.r.data.length v.c v.r.data ∧ fits (nums v.r) ∧ v.r.data.length + 8 ≤ Rows.uptoBulk (D i.1)) (fun i => hex i.1 i.2)
      obtain ⟨b, o, s⟩ := a
      have hc0 := (hf ⟨0, h0⟩).1 0 _ rfl
      have hsp : s = none := by simpa [Addr.add] using World.cell?_spot hc0
      subst hsp
      have hblk : b < W.heap.size := World.block_lt_of_cell? W ⟨b, o, none⟩ (by simpa [Addr.add] using hc0)
      refine ⟨_, len0, m, List.ofFn f, rfl, ⟨by simp, by omega, hbig, fun _ => ⟨b, o, rfl, hblk, fun i x hx j u hu => ?_⟩, fun x hx => ?_⟩, fun r hr => ?_, ?_⟩
      · rw [List.getElem?_ofFn] at hx
        split at hx
        · rename_i hil
          simp only [Option.some.injEq] at hx
          subst hx
          have := (hf ⟨i, hil⟩).1 j u hu
          rwa [add_none] at this
        · cases hx
      · obtain ⟨i, rfl⟩ := List.mem_ofFn.1 hx
        exact (hf i).2.1
      · obtain ⟨x, hx, rfl⟩ := List.mem_map.1 hr
        obtain ⟨i, rfl⟩ := List.mem_ofFn.1 hx
        exact (hf i).2.2.1
      · have h3 := bulk_sum (List.ofFn f) ((List.range len0).map D) (by simp) (fun i x e hx he => by
          rw [List.getElem?_ofFn] at hx
          split at hx
          · rename_i hil
            simp only [Option.some.injEq] at hx
            subst hx
            rw [List.getElem?_map, List.getElem?_range hil] at he
            simp only [Option.map_some, Option.some.injEq] at he
            subst he
            exact (hf ⟨i, hil⟩).2.2.2
          · cases hx)
        refine Nat.le_trans h3 ?_
        simp only [Rows.uptoBulk]
        omega
end Args
end Go.Proofs.YtedandbkdjmfhaaGreat
/-
  THE STATEMENTS' OWN TEST of how great records are (Big), and what it says of their frames.
-/
namespace Go.Proofs.YtedandbkdjmfhaaGreat
open Go.RowKit Mem
namespace Seg
open Wire

/-- What Big reckons, as an int goes round. -/
def bulkR (l : List Rc) : Int := l.foldl (fun z r => wrap64 (z + ((r.data.length : Int) + 20))) 0
/-- .. and what it would be without going round. -/
def weigh (l : List Rc) : Nat := (l.map fun r => r.data.length + 20).sum
theorem weigh_cons (r : Rc) (l : List Rc) : weigh (r :: l) = r.data.length + 20 + weigh l := by simp [weigh]
theorem bulk_from : ∀ (l : List Rc) (z : Nat), z + weigh l < 9223372036854775808 → l.foldl (fun (z : Int) r => wrap64 (z + ((r.data.length : Int) + 20))) (z : Int) = ((z + weigh l : Nat) : Int) := by
  intro l
  induction l with
  | nil => intro z _; simp [weigh]
  | cons r l ih =>
    intro z h
    rw [weigh_cons] at h
    rw [List.foldl_cons]
    have e : wrap64 ((z : Int) + ((r.data.length : Int) + 20)) = ((z + (r.data.length + 20) : Nat) : Int) := by
      unfold wrap64
      omega
    rw [e, ih _ (by omega), weigh_cons]
    congr 1; omega
theorem bulk_weigh {l : List Rc} (h : weigh l < 9223372036854775808) : bulkR l = (weigh l : Int) := by
  have := bulk_from l 0 (by omega)
  unfold bulkR
  rw [show (0 : Int) = ((0 : Nat) : Int) from rfl, this]
  simp
/-- A frame is not much longer than its bytes. -/
theorem frame_rec_len {r : Rc} (hf : fits (nums r)) (hd : r.data.length ≤ 140737488355328) : (frame (recX r)).length ≤ 5 * (r.data.length + 20) := by
  have h1 := encs_len (l := (nums r).map Int.toNat) (fun n hn => by
    obtain ⟨z, hz, rfl⟩ := List.mem_map.1 hn
    have := hf z hz
    omega)
  have h2 : ((nums r).map Int.toNat).length = 6 := rfl
  have h3 := enc_len_le (n := r.data.length) (by omega)
  have h4 : (recX r).length ≤ 70 + r.data.length := by
    rw [recX, List.length_append, encV, List.length_append]
    omega
  have h5 := enc_len_le (n := (recX r).length) (by omega)
  rw [frame_len]
  omega
theorem frames_weigh : ∀ l : List Rc, goods l → (∀ r ∈ l, r.data.length ≤ 140737488355328) → (frames l).length ≤ 5 * weigh l := by
  intro l
  induction l with
  | nil => intro _ _; simp [frames, weigh]
  | cons r l ih =>
    intro h1 h2
    have e1 := frame_rec_len (h1 r (by simp)) (h2 r (by simp))
    have e2 := ih (fun x hx => h1 x (by simp [hx])) (fun x hx => h2 x (by simp [hx]))
    rw [frames_cons, List.length_append, weigh_cons]
    omega

set_option maxRecDepth 100000 in
set_option maxHeartbeats 1600000 in
theorem big_any {most : Int} {A : Option Addr} {n c : Nat} {xs : List Rv} {w : World} (h : RowR w A n c xs) :
    Calls Tryz.prog 8 #[.int .i64 most, .slice A n c] w fun e w' => e = .returned (.bool (decide (most < bulkR (xs.map Rv.r)))) ∧ Below w.heap.size w w' := by
  have HR := Lib.hid h
  have hbig := h.big
  clear h
  go_enter Tryz.func8, Tryz.ntmps8
  go_wp2_with fail
  go_loopw [5, 10] (fun x i wr => ∃ (k : Nat) (z : Int), k ≤ n ∧ i = .int .i64 k ∧ x = .int .i64 z ∧ Hid (bulkR ((xs.map Rv.r).take k) = z) ∧ Hid (Below w.heap.size w wr)) (fun _ i _ => n - (intOf i).toNat)
  case atStart => exact ⟨0, 0, by omega, rfl, rfl, rfl, Below.refl _ _⟩
  case round =>
    obtain ⟨k, z, hk, rfl, rfl, hZ, hB⟩ := hrel
    by_cases hlt : k < n
    · obtain ⟨x, hx⟩ := HR.out.get hlt
      obtain ⟨b0, o0, rfl, hb0, hcell⟩ := HR.out.seven hx
      obtain ⟨q0, q1, q2, q3, q4, q5, q6⟩ := hcell wr (hB.out.block b0 hb0)
      have hxr : (xs.map Rv.r)[k]? = some x.r := by rw [List.getElem?_map, hx]; rfl
      have hm2 := (HR.out.data x (List.mem_of_getElem? hx)).big
      have R : Hid (bulkR ((xs.map Rv.r).take (k + 1)) = wrap64 (z + ((x.r.data.length : Int) + 20))) := by
        show _ = _
        rw [List.take_add_one, hxr]
        have := hZ.out
        unfold bulkR at this ⊢
        rw [List.foldl_append, this]
        rfl
      clear hcell hx hxr
      go_wp2_with fail
      go_roundw
      case rel => exact ⟨k + 1, _, by omega, by go_num, rfl, R.out, hB.out.alloc hB.out.size _⟩
      case measure => simp [intOf]; omega
    · have hkn : (xs.map Rv.r).take k = xs.map Rv.r := List.take_of_length_le (by have := HR.out.len; simp; omega)
      have HK := Lib.hid hkn
      clear hkn
      go_wp2_with fail
      go_ret
      exact ⟨ret_bool (by rw [← hZ.out, HK.out]), hB.out⟩
end Seg
end Go.Proofs.YtedandbkdjmfhaaGreat
/-
  append(s, make([]byte, n)...) ONTO A ROW OF ONE's OWN that is not empty: the translation hands the builtin the number n.
-/
namespace Go.Proofs.YtedandbkdjmfhaaGreat
open Go.RowKit Mem
namespace Seg
open Wire

/-! ### Where a number comes to lie -/
theorem tmod_bounds (cut : Int) (n : Nat) (hn : 0 < n) : -(n : Int) < Int.tmod cut n ∧ Int.tmod cut n < (n : Int) := by
  rcases Int.le_total 0 cut with h | h
  · rw [Int.tmod_eq_emod_of_nonneg h]
    have h1 := Int.emod_nonneg cut (b := (n : Int)) (by omega)
    have h2 := Int.emod_lt_of_pos cut (b := (n : Int)) (by omega)
    omega
  · have e : cut = -(-cut) := by omega
    rw [e, Int.neg_tmod, Int.tmod_eq_emod_of_nonneg (by omega)]
    have h1 := Int.emod_nonneg (-cut) (b := (n : Int)) (by omega)
    have h2 := Int.emod_lt_of_pos (-cut) (b := (n : Int)) (by omega)
    omega
theorem cut_at (cut : Int) (n : Nat) (hn : 0 < n) : ∃ (r : Int) (j : Nat), Int.tmod cut n = r ∧ -(n : Int) < r ∧ r < (n : Int) ∧ Int.tmod (r + n) n = j ∧ (r + n) % (n : Int) = j ∧ j < n := by
  obtain ⟨h1, h2⟩ := tmod_bounds cut n hn
  have h3 := Int.emod_nonneg (Int.tmod cut n + n) (b := (n : Int)) (by omega)
  have h4 := Int.emod_lt_of_pos (Int.tmod cut n + n) (b := (n : Int)) (by omega)
  refine ⟨_, ((Int.tmod cut n + n) % (n : Int)).toNat, rfl, h1, h2, ?_, by omega, by omega⟩
  rw [Int.tmod_eq_emod_of_nonneg (by omega)]
  omega
theorem cut_hundred (z : Int) : ∃ (r : Int) (j : Nat), Int.tmod z 100 = r ∧ -100 < r ∧ r < 100 ∧ Int.tmod (r + 100) 100 = j ∧ (r + 100) % 100 = j ∧ j < 100 := cut_at z 100 (by omega)

/-! ### Where the frames begin, and end -/
theorem starts_get : ∀ (l : List Rc) (u i : Nat), i < l.length → (starts u (sized l))[i]? = some ((u + (frames (l.take i)).length : Nat) : Int)
  | [], u, i, h => by simp at h
  | r :: l, u, 0, _ => by simp [sized, starts, frames]
  | r :: l, u, i + 1, h => by
    have ih := starts_get l (u + (frame (recX r)).length) i (by simpa using h)
    have e : sized (r :: l) = (r, (frame (recX r)).length) :: sized l := rfl
    rw [e, starts, List.getElem?_cons_succ, ih, List.take_succ_cons, frames_cons, List.length_append]
    congr 2
    omega
theorem frame_ge (x : List B8) : 5 ≤ (frame x).length := by
  have h1 := frame_len x
  have h2 := enc_pos x.length
  omega

theorem zeroCells_list (Z : Nat) : (Builtin.zeroCells #[Value.int .u8 0] Z).toList = (List.replicate Z 0#8).map cb := by
  apply List.ext_getElem
  · simp [Builtin.zeroCells]
  · intro i h1 h2
    have e : i % 1 = 0 := Nat.mod_one i
    simp [Builtin.zeroCells, cb, u, e]

theorem run_append_zeros (w : World) (base : Nat) (A : Option Addr) (n c : Nat) (l : List B8) (hown : Owns cb 5 base w (.slice A n c) n l) (h0 : 0 < n) (Z : Nat) (hZ : n + Z ≤ 1000000) (hbase : base ≤ w.heap.size) (ty : TypeId) :
    ∃ s' w', (Builtin.append_ #[32, 3] ty #[.slice A n c, .int .i64 Z]).run Tryz.prog w = .ok s' w' ∧ Owns cb 5 base w' s' (n + Z) (l ++ List.replicate Z 0#8) ∧ Below base w w' := by
  obtain ⟨i, hi, hz0, hz1, hz2⟩ := info_parts info_byte
  have hwz : IntKind.i64.wrap (Z : Int) = Z := by rw [IntKind.wrap_i64]; omega
  have hneg : ¬ ((Z : Int) < 0) := by omega
  have h48i : ¬ (281474976710656 < (Z : Int) * ((1 : Nat) : Int)) := by omega
  have hzc := zeroCells_list Z
  rcases hown.2 with ⟨hs, hn⟩ | ⟨g, cap, cur, hs, hbg, hg, hnc, hcm, hcs, htake⟩
  · omega
  · injection hs with e1 e2 e3
    subst e1 e3
    have hlen : (l ++ List.replicate Z 0#8).length = n + Z := by rw [List.length_append, List.length_replicate, hown.len]
    rcases Nat.eq_zero_or_pos Z with hz | hz
    · subst hz
      refine ⟨.slice (some ⟨g, 0, none⟩) n c, w, ?_, by simpa using hown, Below.refl _ _⟩
      have hw0 : IntKind.i64.wrap 0 = 0 := by decide
      simp [Builtin.append_, run_underlying Tryz.underlying32, run_underlying Tryz.underlying3, sizeOf, typeInfo, hi, hz2, asInt, asIntOf, hw0, hnc, storeCells]
    · by_cases hroom : n + Z ≤ c
      · have hfit : n * 1 + ((List.replicate Z 0#8).map cb).length ≤ cur.size := by simp; omega
        have hst := run_storeCells_at Tryz.prog g (n * 1) 5 ((List.replicate Z 0#8).map cb) 0 cur w hg (by simpa using hfit) (by intro u hu; obtain ⟨x, _, rfl⟩ := List.mem_map.1 hu; rfl)
        simp only [Nat.add_zero, Nat.mul_one, List.map_replicate] at hst
        have hZ0 : Z ≠ 0 := by omega
        have h48z : ¬ (281474976710656 < (Z : Int)) := by omega
        refine ⟨.slice (some ⟨g, 0, none⟩) (n + Z) c, w.setRow g (cur.toList.take n ++ (List.replicate Z 0#8).map cb ++ cur.toList.drop (n + ((List.replicate Z 0#8).map cb).length)).toArray, ?_, ?_, ?_⟩
        · simp [Builtin.append_, run_underlying Tryz.underlying32, run_underlying Tryz.underlying3, sizeOf, typeInfo, zeroValue, hi, hz0, hz1, hz2, asInt, asIntOf, hwz, hneg, hroom, hZ0, h48z, Value.cells, hzc, Addr.add_lit, hst]
        · refine ⟨by simpa using hlen, .inr ⟨g, c, _, rfl, hbg, setRow_heap w g cur _ 5 _ hg, hroom, hcm, ?_, ?_⟩⟩
          · have := hown.len
            simp
            omega
          · have ht : cur.toList.take n = l.map cb := by simpa using htake
            have hl := hown.len
            show List.take ((n + Z) * 1) (_ ++ _) = _
            refine (List.take_left' (by simp; omega)).trans ?_
            rw [ht, List.map_append]
        · exact ⟨rfl, rfl, rfl, by simp, fun k hk => setRow_other w g k _ (by omega)⟩
      · have hnr : ¬ (n + Z ≤ c) := hroom
        have h63' : ¬ (9223372036854775807 < ((n : Int) + (Z : Int))) := by omega
        have h48' : ¬ (281474976710656 < Builtin.nextslicecap (n + Z) c * i.bytes) := by
          have := growslice_fits (need := n + Z) (bytes := i.bytes) (old := c) (by omega) (by rw [hz2]; omega)
          omega
        have h48b : ¬ (281474976710656 < (Z : Int) * (i.bytes : Int)) := by rw [hz2]; omega
        have hns : ¬ (Z * i.size = 0) := by rw [hz1]; omega
        have holds : ∀ j u, (l.map cb)[j]? = some u → w.drew.cell? ((⟨g, 0, none⟩ : Addr).add j) = some u := by
          intro j u hu
          exact hown.cells (g := g) rfl j u hu
        have hfo := run_firstCells_some (P := Tryz.prog) w.drew i.size n ⟨g, 0, none⟩ n c (l.map cb) (by rw [hz1]; simp [hown.len]) holds
        have hcm2 : grownCap w (n + Z) c 5 ≤ maxLen := grownCap_le_maxLen w (n + Z) c 5 (by unfold maxLen; omega)
        have hge := grownCap_ge w (n + Z) c 5
        refine ⟨.slice (some ⟨w.heap.size, 0, none⟩) (n + Z) (grownCap w (n + Z) c 5), w.drew.alloc (.cells ((l.map cb).toArray ++ Builtin.zeroCells #[.int .u8 0] Z ++ Builtin.zeroCells #[.int .u8 0] (grownCap w (n + Z) c 5 - (n + Z))) 5), ?_, ?_, ?_⟩
        · simp [Builtin.append_, run_underlying Tryz.underlying32, run_underlying Tryz.underlying3, sizeOf, typeInfo, zeroValue, hi, hz0, asInt, asIntOf, hwz, hneg, hnr, h63', h48', h48b, hns, Value.cells, Question.forced, hfo, newRow, grownCap]
        · refine ⟨by simpa using hlen, .inr ⟨w.heap.size, _, _, rfl, hbase, heap_alloc_new w.drew _, hge, hcm2, ?_, ?_⟩⟩
          · simp [size_zeroCells]
            have := hown.len
            omega
          · have := hown.len
            simp only [Array.toList_append, hzc, Nat.mul_one]
            rw [List.take_append_of_le_length (by simp; omega), List.take_of_length_le (by simp; omega)]
            simp
        · exact (Below.refl base w).drew.alloc hbase _
end Seg
end Go.Proofs.YtedandbkdjmfhaaGreat
/-
  WHAT SegBack AND SegTurned BOTH ASK: headers compared, slices of records, a scan of frames that are known.
-/
namespace Go.Proofs.YtedandbkdjmfhaaGreat
open Go.RowKit Mem
namespace Seg
open Wire

theorem neq_same_hdr (a : Hdr) (w : World) : (binOp .neq 23 (hdV a) (hdV a)).run Tryz.prog w = .ok (.bool false) w := by
  obtain ⟨a0, a1, a2⟩ := a
  unfold hdV
  go_simp
theorem eql_same_hdr (a : Hdr) (w : World) : (binOp .eql 23 (hdV a) (hdV a)).run Tryz.prog w = .ok (.bool true) w := by
  obtain ⟨a0, a1, a2⟩ := a
  unfold hdV
  go_simp

/-- s[:k] of a slice of records. -/
theorem run_headR (A : Option Addr) (n c k : Nat) (h : k ≤ c) (w : World) : (Instr.slice 33 (.slice A n c) none (some (.int .i64 (k : Int))) none).run Tryz.prog w = .ok (.slice A k c) w := by
  have hu := Tryz.underlying33
  have h1 : (0 : Int) ≤ (k : Int) := by omega
  have h2 : (k : Int) ≤ (c : Int) := by omega
  rcases A with _ | ad <;> go_simp
theorem RowR.head {w : World} {A : Option Addr} {n c : Nat} {xs : List Rv} (h : RowR w A n c xs) {k : Nat} (hk : k ≤ n) : RowR w A k c (xs.take k) := by
  have h1 := h.len
  have h2 := h.cap
  have h3 := h.big
  refine ⟨by simp; omega, by omega, by omega, fun h0 => ?_, fun x hx => h.data x (List.mem_of_mem_take hx)⟩
  obtain ⟨b, o, e, hlt, hc⟩ := h.at_ (by omega)
  refine ⟨b, o, e, hlt, fun i x hi j v hv => hc i x ?_ j v hv⟩
  rw [List.getElem?_take] at hi
  split at hi
  · exact hi
  · cases hi

/-- What Scan tells where it is known what there is. -/
def FndL (h : Hdr) (u0 : Nat) (l : List Rc) (w : World) (en : Ending) (w' : World) : Prop :=
  ∃ ys LA LC AA AC, en = .returned (.agg #[.bool true, .int .i64 h.host, .int .i64 h.epoch, .int .i64 h.seq, .slice LA l.length LC, .slice AA l.length AC, .int .i64 ((u0 + (frames l).length : Nat) : Int)]) ∧
    RowR w' LA l.length LC ys ∧ Row ci w' AA l.length AC (starts u0 (sized l)) ∧ ys.map Rv.r = l ∧ Below w.heap.size w w'
theorem scan_to {h : Hdr} {b : List B8} {l : List Rc} {A : Option Addr} {n c : Nat} {w : World} (hr : Row cb w A n c (frame (headX h) ++ b)) (hn : n ≤ 1000000) (hf : fits (hnums h)) (hnn : nn (hnums h)) (hs : Scans b (sized l)) :
    Calls Tryz.prog 11 #[.slice A n c] w (FndL h (frame (headX h)).length l w) := by
  refine (scan_found hr hn (headAt_seg h hf hnn b)).mono ?_
  rintro e w' ⟨acc, xs, LA, LC, AA, AC, h1, h2, rfl, h4, h5, h6, h7⟩
  rw [List.drop_left] at h1
  obtain rfl : acc = sized l := h1.det hs
  rw [sized_len] at h4 h5
  rw [sized_fst] at h6
  rw [sized_total, sized_len]
  exact ⟨xs, LA, LC, AA, AC, rfl, h4, h5, h6, h7⟩

/-- How many frames are whole ahead of a place; none where the header's own is not. -/
def kept (u0 : Nat) (l : List Rc) (C : Nat) : Nat := if u0 ≤ C then whole l (C - u0) else 0
theorem kept_le (u0 : Nat) (l : List Rc) (C : Nat) : kept u0 l C ≤ l.length := by
  unfold kept
  split
  · exact whole_le l _
  · omega
theorem kept_iff {u0 : Nat} {l : List Rc} {C k : Nat} (hk : k < l.length) : k < kept u0 l C ↔ u0 + (frames (l.take (k + 1))).length ≤ C := by
  unfold kept
  split
  · rw [whole_iff l _ k hk]; omega
  · omega
/-- What Scan tells of what was cut off. -/
def FndC (u0 : Nat) (l : List Rc) (C : Nat) (w : World) (en : Ending) (w' : World) : Prop :=
  ∃ (hb : Bool) (a0 a1 a2 : Int) (U : Nat) (ys : List Rv) (LA : Option Addr) (LC : Nat) (AA : Option Addr) (AC : Nat), en = .returned (.agg #[.bool hb, .int .i64 a0, .int .i64 a1, .int .i64 a2, .slice LA (kept u0 l C) LC, .slice AA (kept u0 l C) AC, .int .i64 (U : Int)]) ∧
    RowR w' LA (kept u0 l C) LC ys ∧ ys.map Rv.r = l.take (kept u0 l C) ∧ hb = decide (u0 ≤ C) ∧ U ≤ C ∧ (C < u0 → kept u0 l C = 0 ∧ U = 0) ∧ Below w.heap.size w w'
theorem scan_cut {h : Hdr} {l : List Rc} {A : Option Addr} {C c : Nat} {w : World} (hr : Row cb w A C c ((frame (headX h) ++ frames l).take C)) (hn : C ≤ 1000000) (hf : fits (hnums h)) (hnn : nn (hnums h)) (hg : ∀ r ∈ l, good r) :
    Calls Tryz.prog 11 #[.slice A C c] w (FndC (frame (headX h)).length l C w) := by
  by_cases hC : (frame (headX h)).length ≤ C
  · have hk : kept (frame (headX h)).length l C = whole l (C - (frame (headX h)).length) := by unfold kept; rw [if_pos hC]
    have e : (frame (headX h) ++ frames l).take C = frame (headX h) ++ (frames l).take (C - (frame (headX h)).length) := by
      rw [List.take_append, List.take_of_length_le hC]
    rw [e] at hr
    refine (scan_to hr hn hf hnn (scans_cut l _ hg)).mono ?_
    rintro en w' ⟨ys, LA, LC, AA, AC, rfl, h1, h2, h3, h4⟩
    have hl : (l.take (whole l (C - (frame (headX h)).length))).length = whole l (C - (frame (headX h)).length) := by rw [List.length_take]; have := whole_le l (C - (frame (headX h)).length); omega
    have hw := frames_whole l (C - (frame (headX h)).length)
    rw [hl] at h1 ⊢
    unfold FndC
    rw [hk]
    exact ⟨true, _, _, _, _, ys, LA, LC, AA, AC, rfl, h1, h3, by simp [hC], by omega, fun _ => by omega, h4⟩
  · have hk : kept (frame (headX h)).length l C = 0 := by unfold kept; rw [if_neg hC]
    have e : (frame (headX h) ++ frames l).take C = (frame (headX h)).take C := List.take_append_of_le_length (by omega)
    rw [e] at hr
    refine (scan_nothing hr hn (headAt_cut h hf hnn C (by omega))).mono ?_
    rintro en w' ⟨rfl, h4⟩
    unfold FndC
    rw [hk]
    exact ⟨false, 0, 0, 0, 0, [], none, 0, none, 0, rfl, ⟨rfl, by omega, by omega, fun h => absurd h (by omega), by simp⟩, by simp, by simp [hC], by omega, fun _ => ⟨rfl, rfl⟩, h4⟩
end Seg
end Go.Proofs.YtedandbkdjmfhaaGreat
/-
  PACKS IN PLAIN: what a pack comes to by what is added, where each record's bytes will stand, and that they stand there.
-/
namespace Go.Proofs.YtedandbkdjmfhaaGreat
namespace Pk
open Seg Wire

/-- A pack in plain. -/
structure Pp where
  h : Hdr
  zone : Int
  cap : Int
  at_ : Int
  buf : List B8
  l : List Rc
def zeroP : Pp := ⟨⟨0, 0, 0⟩, 0, 0, 0, [], []⟩
/-- How long a record's frame is; where its bytes stand in it. -/
def flen (r : Rc) : Nat := (frame (recX r)).length
def placeR (r : Rc) : Int := (flen r : Int) - 4 - (r.data.length : Int)
def places : Int → List Rc → List Int
  | _, [] => []
  | e, r :: l => (e + placeR r) :: places (e + (flen r : Int)) l
def roomP (p : Pp) : Int := max 0 (p.cap - (p.at_ + (p.buf.length : Int)))
def errB (l : List Rc) : Nat := (recsB l).2
def fitsP (p : Pp) (l : List Rc) : Prop := p.at_ + (p.buf.length : Int) + ((frames l).length : Int) ≤ p.cap
instance (p : Pp) (l : List Rc) : Decidable (fitsP p l) := by unfold fitsP; infer_instance
def moreP (p : Pp) (l : List Rc) : Pp := ⟨p.h, p.zone, p.cap, p.at_, p.buf ++ frames l, p.l ++ l⟩
/-- What Add tells: the pack, the places, the error. -/
def addP (p : Pp) (l : List Rc) : Pp × List Int × Nat :=
  if errB l = 0 then (if fitsP p l then (moreP p l, places (p.at_ + (p.buf.length : Int)) l, 0) else (zeroP, [], 40)) else (zeroP, [], errB l)
def behindP (p : Pp) : Pp := ⟨p.h, p.zone, p.cap, p.at_ + (p.buf.length : Int), [], []⟩
/-- A pack that may be. -/
structure OkP (p : Pp) : Prop where
  at0 : 0 ≤ p.at_
  room : p.at_ + (p.buf.length : Int) ≤ p.cap
  cap : p.cap ≤ 65536
  few : p.l.length ≤ p.buf.length
  data : ∀ r ∈ p.l, check r = 0

theorem flen_ge (r : Rc) : 5 ≤ flen r := frame_ge _
theorem frames_nil : frames [] = [] := rfl
theorem frames_one (r : Rc) : (frames [r]).length = flen r := by simp [frames, flen]
theorem frames_ge : ∀ l : List Rc, 5 * l.length ≤ (frames l).length
  | [] => by simp
  | r :: l => by
    have h1 := frames_ge l
    have h2 := flen_ge r
    rw [frames_cons, List.length_append, List.length_cons]
    unfold flen at h2
    omega
theorem frames_len_cons (r : Rc) (l : List Rc) : (frames (r :: l)).length = flen r + (frames l).length := by rw [frames_cons, List.length_append]; rfl
theorem flen_le {r : Rc} (hf : fits (nums r)) (h : check r = 0) : flen r ≤ 40100 := by
  have h1 := recX_len hf h
  have h2 := frame_len (recX r)
  have h3 := enc_len_le (n := (recX r).length) (by omega)
  unfold flen
  omega
theorem recX_ge (r : Rc) : r.data.length ≤ (recX r).length := by
  unfold recX encV
  simp only [List.length_append]
  omega
theorem placeR_ge (r : Rc) : 0 ≤ placeR r := by
  have h1 := frame_len (recX r)
  have h2 := recX_ge r
  unfold placeR flen
  omega
theorem placeR_le (r : Rc) : placeR r + (r.data.length : Int) + 4 = (flen r : Int) := by unfold placeR; omega
/-- Where it is told, a record's bytes stand. -/
theorem place_data (r : Rc) : ((frame (recX r)).drop (placeR r).toNat).take r.data.length = r.data := by
  have h1 := frame_len (recX r)
  have e : frame (recX r) = (enc (recX r).length ++ encs ((nums r).map Int.toNat) ++ enc r.data.length) ++ (r.data ++ Seg.enc4 (sumOf (recX r))) := by
    unfold frame
    rw [show encV (recX r) = enc (recX r).length ++ recX r from rfl, show recX r = encs ((nums r).map Int.toNat) ++ encV r.data from rfl, show encV r.data = enc r.data.length ++ r.data from rfl]
    simp only [List.append_assoc]
  have hl : (placeR r).toNat = (enc (recX r).length ++ encs ((nums r).map Int.toNat) ++ enc r.data.length).length := by
    have h4 := congrArg List.length e
    have h5 : (r.data ++ Seg.enc4 (sumOf (recX r))).length = r.data.length + 4 := by rw [List.length_append, Seg.enc4_len]
    rw [List.length_append, h5] at h4
    unfold placeR flen
    omega
  rw [hl, e, List.drop_left, List.take_left]
theorem places_len : ∀ (l : List Rc) (e : Int), (places e l).length = l.length
  | [], _ => rfl
  | r :: l, e => by simp [places, places_len l]
theorem places_append : ∀ (l m : List Rc) (e : Int), places e (l ++ m) = places e l ++ places (e + ((frames l).length : Int)) m
  | [], m, e => by simp [places, frames_nil]
  | r :: l, m, e => by
    rw [List.cons_append, places, places, places_append l m, frames_len_cons, List.cons_append]
    congr 2
    congr 1
    rw [Int.natCast_add]
    omega
theorem places_one (r : Rc) (e : Int) : places e [r] = [e + placeR r] := rfl
theorem places_snoc (l : List Rc) (r : Rc) (e : Int) : places e (l ++ [r]) = places e l ++ [e + ((frames l).length : Int) + placeR r] := by rw [places_append, places_one]
theorem places_get : ∀ (l : List Rc) (e : Int) (i : Nat) (r : Rc), l[i]? = some r → (places e l)[i]? = some (e + ((frames (l.take i)).length : Int) + placeR r)
  | [], _, _, _, h => by simp at h
  | a :: l, e, 0, r, h => by
    simp only [List.getElem?_cons_zero, Option.some.injEq] at h
    subst h
    simp [places, frames_nil]
  | a :: l, e, i + 1, r, h => by
    rw [List.getElem?_cons_succ] at h
    rw [places, List.getElem?_cons_succ, places_get l _ i r h, List.take_succ_cons, frames_len_cons]
    congr 1
    rw [Int.natCast_add]
    omega

theorem errB_nil : errB [] = 0 := rfl
theorem errB_ok {l : List Rc} (h : ∀ r ∈ l, check r = 0) : errB l = 0 := by unfold errB; rw [recsB_ok l h]
theorem errB_zero {l : List Rc} (h : errB l = 0) : ∀ r ∈ l, check r = 0 := by
  rcases hr : recsB l with ⟨b, e⟩
  unfold errB at h
  rw [hr] at h
  rcases recsB_bad l b e hr with ⟨_, h1⟩ | ⟨h1, _⟩
  · exact h1
  · exact absurd h h1
theorem errB_iff {l : List Rc} : errB l = 0 ↔ ∀ r ∈ l, check r = 0 := ⟨errB_zero, errB_ok⟩
theorem errB_le (l : List Rc) : errB l = 0 ∨ errB l = 1 ∨ errB l = 2 := by
  rcases hr : recsB l with ⟨b, e⟩
  unfold errB
  rw [hr]
  rcases recsB_bad l b e hr with ⟨h1, _⟩ | ⟨h1, _, i, r, _, hc, _⟩
  · exact .inl h1
  · show e = 0 ∨ e = 1 ∨ e = 2
    rw [← hc]
    exact check_le r
theorem errB_one (r : Rc) : errB [r] = check r := by
  unfold errB recsB recsB
  by_cases h : check r = 0
  · rw [if_pos h, h]; rfl
  · rw [if_neg h]
theorem errB_at {l : List Rc} {k : Nat} {r : Rc} {e : Nat} (h1 : ∀ r ∈ l.take k, check r = 0) (h2 : l[k]? = some r) (h3 : check r = e) (h4 : e ≠ 0) : errB l = e := by
  unfold errB
  rw [recsB_at l k r e h1 h2 h3 h4]
theorem errB_append (l m : List Rc) : errB (l ++ m) = if errB l = 0 then errB m else errB l := by
  induction l with
  | nil => rw [List.nil_append, errB_nil, if_pos rfl]
  | cons r l ih =>
    unfold errB at *
    rw [List.cons_append, recsB, recsB]
    by_cases h : check r = 0
    · rw [if_pos h, if_pos h]
      dsimp only
      have e : ∀ (t : List B8 × Nat), (if t.2 = 0 then (frame (recX r) ++ t.1, 0) else (([] : List B8), t.2)).2 = t.2 := by
        intro t
        split
        · next h => exact h.symm
        · rfl
      rw [e, e, ih]
    · rw [if_neg h, if_neg h]
      dsimp only
      rw [if_neg h]

theorem addP_ok {p : Pp} {l : List Rc} (h1 : errB l = 0) (h2 : fitsP p l) : addP p l = (moreP p l, places (p.at_ + (p.buf.length : Int)) l, 0) := by unfold addP; rw [if_pos h1, if_pos h2]
theorem addP_full {p : Pp} {l : List Rc} (h1 : errB l = 0) (h2 : ¬ fitsP p l) : addP p l = (zeroP, [], 40) := by unfold addP; rw [if_pos h1, if_neg h2]
theorem addP_bad {p : Pp} {l : List Rc} (h1 : errB l ≠ 0) : addP p l = (zeroP, [], errB l) := by unfold addP; rw [if_neg h1]
theorem addP_cases (p : Pp) (l : List Rc) : (errB l = 0 ∧ fitsP p l ∧ addP p l = (moreP p l, places (p.at_ + (p.buf.length : Int)) l, 0)) ∨ (∃ e, e ≠ 0 ∧ (e = 1 ∨ e = 2 ∨ e = 40) ∧ addP p l = (zeroP, [], e)) := by
  by_cases h1 : errB l = 0
  · by_cases h2 : fitsP p l
    · exact .inl ⟨h1, h2, addP_ok h1 h2⟩
    · exact .inr ⟨40, by omega, by omega, addP_full h1 h2⟩
  · exact .inr ⟨errB l, h1, by rcases errB_le l with h | h | h <;> omega, addP_bad h1⟩
theorem OkP.more {p : Pp} (h : OkP p) {l : List Rc} (h1 : errB l = 0) (h2 : fitsP p l) : OkP (moreP p l) := by
  have h3 := frames_ge l
  have h4 := h.few
  refine ⟨h.at0, ?_, h.cap, ?_, fun r hr => ?_⟩
  · unfold fitsP at h2
    show p.at_ + (((p.buf ++ frames l).length : Nat) : Int) ≤ p.cap
    rw [List.length_append]
    omega
  · show (p.l ++ l).length ≤ (p.buf ++ frames l).length
    simp only [List.length_append]
    omega
  · rcases List.mem_append.1 hr with hr | hr
    · exact h.data r hr
    · exact errB_zero h1 r hr
theorem OkP.behind {p : Pp} (h : OkP p) : OkP (behindP p) := by
  have := h.at0
  refine ⟨?_, ?_, h.cap, Nat.le_refl _, by simp [behindP]⟩
  · show 0 ≤ p.at_ + (p.buf.length : Int)
    omega
  · show p.at_ + (p.buf.length : Int) + ((0 : Nat) : Int) ≤ p.cap
    have := h.room
    omega
theorem OkP.zero : OkP zeroP := ⟨by decide, by decide, by decide, by decide, by simp [zeroP]⟩
theorem OkP.buf_le {p : Pp} (h : OkP p) : p.buf.length ≤ 65536 := by have := h.at0; have := h.room; have := h.cap; omega
theorem OkP.at_le {p : Pp} (h : OkP p) : p.at_ ≤ 65536 := by have := h.room; have := h.cap; omega
theorem OkP.l_le {p : Pp} (h : OkP p) : p.l.length ≤ 65536 := Nat.le_trans h.few h.buf_le
theorem OkP.roomP {p : Pp} (h : OkP p) : roomP p = p.cap - (p.at_ + (p.buf.length : Int)) := by unfold Pk.roomP; have := h.room; omega
theorem moreP_nil (p : Pp) : moreP p [] = p := by unfold moreP; simp [frames_nil]
theorem moreP_more (p : Pp) (l m : List Rc) : moreP (moreP p l) m = moreP p (l ++ m) := by unfold moreP; simp [frames_append]
theorem fitsP_nil {p : Pp} (h : OkP p) : fitsP p [] := by unfold fitsP; have := h.room; simp [frames_nil]; omega
/-- One more record fits where there is room for its frame. -/
theorem fitsP_snoc (p : Pp) (l : List Rc) (r : Rc) : fitsP p (l ++ [r]) ↔ p.at_ + ((p.buf.length : Int) + ((frames l).length : Int)) + (flen r : Int) ≤ p.cap := by
  unfold fitsP
  rw [frames_append, List.length_append, frames_one]
  omega
theorem fitsP_more (p : Pp) (l m : List Rc) : fitsP (moreP p l) m ↔ fitsP p (l ++ m) := by
  unfold fitsP moreP
  simp only [frames_append, List.length_append]
  omega
theorem fitsP_left {p : Pp} {l m : List Rc} (h : fitsP p (l ++ m)) : fitsP p l := by
  unfold fitsP at *
  rw [frames_append, List.length_append] at h
  omega

/-! ### Begun, and gone on with -/
def mayZ (zone most : Int) : Prop := 0 ≤ zone ∧ 1 ≤ most ∧ most ≤ 65536
instance (z m : Int) : Decidable (mayZ z m) := by unfold mayZ; infer_instance
instance nnDec (l : List Int) : Decidable (nn l) := by unfold nn; infer_instance
def beginP (h : Hdr) (zone most : Int) : Pp × Nat :=
  if nn (hnums h) then (if mayZ zone most then (if ((frame (headX h)).length : Int) ≤ most then (⟨h, zone, most, 0, frame (headX h), []⟩, 0) else (zeroP, 40)) else (zeroP, 1)) else (zeroP, 1)
theorem head_len {h : Hdr} (hf : fits (hnums h)) (hn : nn (hnums h)) : (frame (headX h)).length ≤ 100 := by
  have h1 := headX_len h hf hn
  have h2 := frame_len (headX h)
  have h3 := enc_len_le (n := (headX h).length) (by omega)
  omega
theorem begin_cases (h : Hdr) (zone most : Int) : (nn (hnums h) ∧ mayZ zone most ∧ ((frame (headX h)).length : Int) ≤ most ∧ beginP h zone most = (⟨h, zone, most, 0, frame (headX h), []⟩, 0)) ∨ beginP h zone most = (zeroP, 1) ∨ beginP h zone most = (zeroP, 40) := by
  unfold beginP
  by_cases h1 : nn (hnums h)
  · rw [if_pos h1]
    by_cases h2 : mayZ zone most
    · rw [if_pos h2]
      by_cases h3 : ((frame (headX h)).length : Int) ≤ most
      · rw [if_pos h3]; exact .inl ⟨h1, h2, h3, rfl⟩
      · rw [if_neg h3]; exact .inr (.inr rfl)
    · rw [if_neg h2]; exact .inr (.inl rfl)
  · rw [if_neg h1]; exact .inr (.inl rfl)
theorem OkP.begun {h : Hdr} {zone most : Int} (h2 : mayZ zone most) (h3 : ((frame (headX h)).length : Int) ≤ most) : OkP ⟨h, zone, most, 0, frame (headX h), []⟩ :=
  ⟨by show (0 : Int) ≤ 0; omega, by show (0 : Int) + _ ≤ most; simpa using h3, h2.2.2, by simp, by simp⟩
theorem OkP.resumed {h : Hdr} {zone most at_ : Int} (h2 : mayZ zone most) (h0 : 0 ≤ at_) (h3 : at_ ≤ most) : OkP ⟨h, zone, most, at_, [], []⟩ :=
  ⟨h0, by show at_ + ((0 : Nat) : Int) ≤ most; omega, h2.2.2, by simp, by simp⟩
end Pk
end Go.Proofs.YtedandbkdjmfhaaGreat
/-
  ROWS OF STRUCTS OF ONE'S OWN, IN ONE FOR ALL TYPES: an element's cells by a function of the prover's own.
-/
namespace Go.Proofs.YtedandbkdjmfhaaGreat
open Go.RowKit Mem
namespace OwnS
/-- Each element has k cells, each of one. -/
structure Fit {α : Type} (cells : α → List Value) (k : Nat) : Prop where
  pos : 0 < k
  len : ∀ x, (cells x).length = k
  one : ∀ x, ∀ u ∈ cells x, u.oneCell' = true
variable {α : Type} {cells : α → List Value} {k : Nat}
theorem flat_len (F : Fit cells k) (xs : List α) : (xs.flatMap cells).length = xs.length * k := by
  induction xs with
  | nil => simp
  | cons x xs ih => rw [List.flatMap_cons, List.length_append, ih, F.len, List.length_cons, Nat.succ_mul]; omega
theorem flat_one (F : Fit cells k) (xs : List α) : ∀ u ∈ xs.flatMap cells, u.oneCell' = true := by
  intro u hu
  obtain ⟨x, _, hx⟩ := List.mem_flatMap.1 hu
  exact F.one x u hx
theorem flat_get (F : Fit cells k) (xs : List α) (i j : Nat) (x : α) (v : Value) (hx : xs[i]? = some x) (hv : (cells x)[j]? = some v) : (xs.flatMap cells)[i * k + j]? = some v := by
  induction xs generalizing i with
  | nil => simp at hx
  | cons y xs ih =>
    have hj : j < k := by have := (List.getElem?_eq_some_iff.1 hv).1; rwa [F.len] at this
    rw [List.flatMap_cons]
    rcases i with _ | i
    · simp only [List.getElem?_cons_zero, Option.some.injEq] at hx
      subst hx
      rw [Nat.zero_mul, Nat.zero_add, List.getElem?_append_left (by rw [F.len]; exact hj)]
      exact hv
    · rw [Nat.succ_mul, List.getElem?_append_right (by rw [F.len]; omega), F.len]
      rw [show i * k + k + j - k = i * k + j by omega]
      exact ih i (by simpa using hx)
theorem flat_inv (F : Fit cells k) (xs : List α) (q : Nat) (v : Value) (h : (xs.flatMap cells)[q]? = some v) : ∃ x, xs[q / k]? = some x ∧ (cells x)[q % k]? = some v := by
  have hl : q < xs.length * k := by rw [← flat_len F]; exact (List.getElem?_eq_some_iff.1 h).1
  have hlt : q / k < xs.length := (Nat.div_lt_iff_lt_mul F.pos).2 hl
  have hx : xs[q / k]? = some xs[q / k] := List.getElem?_eq_getElem hlt
  have hm : q % k < (cells xs[q / k]).length := by rw [F.len]; exact Nat.mod_lt _ F.pos
  obtain ⟨u, hu⟩ : ∃ u, (cells xs[q / k])[q % k]? = some u := ⟨_, List.getElem?_eq_getElem hm⟩
  have := flat_get F xs (q / k) (q % k) _ u hx hu
  rw [show q / k * k + q % k = q by rw [Nat.mul_comm]; exact Nat.div_add_mod q k, h] at this
  injection this with this
  exact ⟨_, hx, by rw [this]; exact hu⟩
theorem row_flat (F : Fit cells k) {w : World} {A : Option Addr} {n c : Nat} {l : List α} (h : RowS cells k w A n c l) {b o : Nat} (hA : A = some ⟨b, o, none⟩) : ∀ j u, (l.flatMap cells)[j]? = some u → w.cell? ⟨b, o + j, none⟩ = some u := by
  intro j u hj
  obtain ⟨x, hx, hu⟩ := flat_inv F l j u hj
  have hn : j / k < l.length := (List.getElem?_eq_some_iff.1 hx).1
  obtain ⟨b', o', e, -, hc⟩ := h.at_ (Nat.lt_of_le_of_lt (Nat.zero_le _) (h.len ▸ hn))
  rw [hA] at e
  injection e with e
  injection e with e1 e2
  subst e1 e2
  have := hc (j / k) x hx (j % k) u hu
  rwa [show o + j / k * k + j % k = o + j by rw [Nat.add_assoc, Nat.mul_comm, Nat.div_add_mod]] at this
/-- A row of one's own. -/
def Owns (cells : α → List Value) (k : Nat) (e : TypeId) (base : Nat) (w : World) (s : Value) (n : Nat) (xs : List α) : Prop := w.ownsRow base e k s n (xs.flatMap cells) ∧ xs.length = n
section
variable {e : TypeId} {base : Nat} {w w' : World} {s : Value} {n : Nat} {xs : List α}
theorem Owns.nil (cells : α → List Value) (k : Nat) (e : TypeId) (base : Nat) (w : World) : Owns cells k e base w (.slice none 0 0) 0 [] := ⟨World.ownsRow_nil _ _ _ _, rfl⟩
theorem Owns.kept {row : Option Nat} (h : Owns cells k e base w s n xs) (hg : w.grownBy w' row) (hne : s.ownBlock = none ∨ s.ownBlock ≠ row) : Owns cells k e base w' s n xs := ⟨World.ownsRow.kept h.1 hg hne, h.2⟩
theorem Owns.below (h : Owns cells k e base w s n xs) (hb : Below w.heap.size w w') : Owns cells k e base w' s n xs := by
  refine ⟨⟨h.1.1, ?_⟩, h.2⟩
  rcases h.1.2 with hn | ⟨q, cap, cur, e', hbg, hq, r⟩
  · exact .inl hn
  · exact .inr ⟨q, cap, cur, e', hbg, (hb.block _ (Array.getElem?_eq_some_iff.1 hq).1).trans hq, r⟩
theorem Owns.alloc (h : Owns cells k e base w s n xs) (o : Obj) : Owns cells k e base (w.alloc o) s n xs := h.below ((Below.refl _ w).alloc (Nat.le_refl _) o)
theorem Owns.drew (h : Owns cells k e base w s n xs) : Owns cells k e base w.drew s n xs := h.below (Below.refl _ w).drew
theorem Owns.slice (h : Owns cells k e base w s n xs) : ∃ A c, s = .slice A n c := by
  rcases h.1.2 with ⟨rfl, rfl⟩ | ⟨g, cap, cur, rfl, _⟩
  · exact ⟨none, 0, rfl⟩
  · exact ⟨_, _, rfl⟩
theorem Owns.row (F : Fit cells k) {A : Option Addr} {c : Nat} (h : Owns cells k e base w (.slice A n c) n xs) (hn : n ≤ 140737488351232) : RowS cells k w A n c xs := by
  rcases h.1.2 with ⟨e, h0⟩ | ⟨g, cap, cur, e, _, hg, hnc, hcm, hs, ht⟩
  · subst h0
    injection e with e1 _ e3
    subst e1 e3
    exact ⟨h.2, by omega, by omega, fun h => absurd h (by omega)⟩
  · injection e with e1 _ e3
    subst e1 e3
    refine ⟨h.2, hnc, hn, fun _ => ⟨g, 0, rfl, (Array.getElem?_eq_some_iff.1 hg).1, fun i x hx j v hv => ?_⟩⟩
    have := World.ownsRow.cells (g := g) (h.1 : w.ownsRow base _ k _ n (xs.flatMap cells)) rfl (i * k + j) v (flat_get F xs i j x v hx hv)
    simpa [Mem.add_none, Nat.add_assoc] using this
theorem Owns.lt (h : Owns cells k e base w s n xs) : ∀ q, s.ownBlock = some q → base ≤ q ∧ q < w.heap.size := World.ownsRow.lt h.1
theorem below_row (h : Owns cells k e base w s n xs) (hg : w.grownBy w' s.ownBlock) (hb : base ≤ w.heap.size) : Below base w w' :=
  (Below.refl base w).grown hg hb (fun q hk => (h.lt q hk).1)
end
set_option maxRecDepth 100000 in
/-- append(s, x...) onto a row of the call's own; x nil, empty or not. -/
theorem run_append {P : Program} (F : Fit cells k) {t e : TypeId} (ht : P.underlying t = some (.slice e)) {z : Value} {bytes : Nat} (hinfo : (P.info? e).map (fun i => (i.zero, i.size, i.bytes)) = some (some z, k, bytes)) (hzs : z.cells.size = k) (hb1 : bytes ≤ 256)
    (w : World) (base : Nat) (s : Value) (n : Nat) (l : List α) (hown : Owns cells k e base w s n l) (A : Option Addr) (m c : Nat) (l' : List α) (hx : RowS cells k w A m c l') (hbig : n + m ≤ 1099511627) (hbase : base ≤ w.heap.size) :
    ∃ s' w', (Builtin.append_ #[t, t] t #[s, .slice A m c]).run P w = .ok s' w' ∧ Owns cells k e base w' s' (n + m) (l ++ l') ∧ w.grownBy w' s.ownBlock ∧ (s'.ownBlock = s.ownBlock ∨ s'.ownBlock = some w.heap.size) := by
  obtain ⟨i, hi, hz0, hz1, hz2⟩ := info_parts hinfo
  rcases A with _ | ad
  · have hm : m = 0 := by
      rcases Nat.eq_zero_or_pos m with h0 | h0
      · exact h0
      · obtain ⟨b, o, e, _⟩ := hx.at_ h0
        cases e
    have hl : l' = [] := List.eq_nil_of_length_eq_zero (by rw [hx.len, hm])
    subst hm hl
    refine ⟨s, w, ?_, by simpa using hown, ⟨rfl, rfl, rfl, Nat.le_refl _, fun _ _ _ => rfl⟩, .inl rfl⟩
    rcases hown.1.2 with ⟨rfl, rfl⟩ | ⟨b, cap, cur, rfl, _, _, hnc, _⟩
    · simp [Builtin.append_, run_underlying ht, sizeOf, typeInfo, hi, Builtin.lenOf, Builtin.firstCells]
    · simp [Builtin.append_, run_underlying ht, sizeOf, typeInfo, hi, Builtin.lenOf, Builtin.firstCells, hnc, storeCells]
  · have hcells : ∀ j q, (l'.flatMap cells)[j]? = some q → w.cell? (ad.add j) = some q := by
      intro j q hq
      have hlt : j < (l'.flatMap cells).length := (List.getElem?_eq_some_iff.1 hq).1
      rw [flat_len F] at hlt
      obtain ⟨b, o, e, _⟩ := hx.at_ (by have := hx.len; rcases Nat.eq_zero_or_pos m with h0 | h0; · rw [this, h0, Nat.zero_mul] at hlt; omega
                                        · exact h0)
      have := row_flat F hx e j q hq
      injection e with e
      subst e
      rw [Mem.add_none]
      exact this
    have hby : (n + m) * bytes ≤ 140737488355328 := Nat.le_trans (Nat.mul_le_mul_left _ hb1) (by omega)
    obtain ⟨s', w', hrun, h2, h3, -, h5⟩ := run_append_own_at (P := P) w base t t e i _ k bytes ht hi hz0 hz1 hz2 hzs F.pos s n _ hown.1 ad m c (l'.flatMap cells) (by rw [flat_len F, hx.len]) hcells (flat_one F l') (by unfold maxLen; omega) hby hbase
    exact ⟨s', w', hrun, ⟨by rw [List.flatMap_append]; exact h2, by rw [List.length_append, hown.2, hx.len]⟩, h3, h5⟩
theorem wpList_append {P : Program} (F : Fit cells k) {t e : TypeId} (ht : P.underlying t = some (.slice e)) {z : Value} {bytes : Nat} (hinfo : (P.info? e).map (fun i => (i.zero, i.size, i.bytes)) = some (some z, k, bytes)) (hzs : z.cells.size = k) (hb1 : bytes ≤ 256)
    {w : World} {ops : Array Oper} {rest : List Oper} {o : Oper} {a : Act} {Q : Exit → Act → World → Prop} (hgd : o.guard = none) (s x : Operand)
    (ho : o.op = .call { callee := .builtin .append, args := #[s, x], argTypes := #[t, t] }) (hty : o.type = t)
    (base : Nat) (sv : Value) (n : Nat) (l : List α) (hs : a.eval s = sv) (hown : Owns cells k e base w sv n l) (A : Option Addr) (m c : Nat) (l' : List α) (hx : a.eval x = .slice A m c) (h : RowS cells k w A m c l')
    (hbig : n + m ≤ 1099511627) (hbase : base ≤ w.heap.size)
    (hk : ∀ A' c' w', Owns cells k e base w' (.slice A' (n + m) c') (n + m) (l ++ l') → w.grownBy w' sv.ownBlock → ((Value.slice A' (n + m) c').ownBlock = sv.ownBlock ∨ (Value.slice A' (n + m) c').ownBlock = some w.heap.size) → wpList P ops Q rest (a.put o.dst (.slice A' (n + m) c')) w') :
    wpList P ops Q (o :: rest) a w := by
  refine wpList_plain hgd fun K hK => ?_
  obtain ⟨s', w', hrun, h2, h3, h4⟩ := run_append F ht hinfo hzs hb1 w base sv n l hown A m c l' h hbig hbase
  obtain ⟨A', c', rfl⟩ := h2.slice
  unfold Oper.wp execOp
  simp only [ho, hty, resolve, invoke, builtin, Sem.run_bind, Sem.run_pure, Result.andThen_ok, List.map_toArray, List.map_cons, List.map_nil, hs, hx, hrun]
  exact hK _ _ (hk A' c' w' h2 h3 h4)
end OwnS
end Go.Proofs.YtedandbkdjmfhaaGreat
/-
  AN APPEND ONTO A ROW OF ONE'S OWN AS ONE OPERATION OF A REGION, for any element. (Program-free.)
-/
namespace Go.Proofs.YtedandbkdjmfhaaGreat
open Go.RowKit Mem
namespace Mem
theorem wp_append_row {α : Type} {P : Program} {f : α → Value} (hf : ∀ x, (f x).oneCell' = true) {t e : TypeId} (ht : P.underlying t = some (.slice e)) {z : Value} {bytes : Nat} (hinfo : (P.info? e).map (fun i => (i.zero, i.size, i.bytes)) = some (some z, 1, bytes)) (hzs : z.cells.size = 1)
    {w : World} {o : Oper} {a : Act} {Q : Exit → Act → World → Prop} {K : Act → World → Prop} (s x : Operand)
    (ho : o.op = .call { callee := .builtin .append, args := #[s, x], argTypes := #[t, t] }) (hty : o.type = t)
    (base : Nat) (sv : Value) (n : Nat) (l : List α) (hs : a.eval s = sv) (hown : Owns f e base w sv n l) (A : Option Addr) (m c : Nat) (l' : List α) (hx : a.eval x = .slice A m c) (h : Row f w A m c l')
    (hbig : n + m ≤ 281474976710656) (hby : ((n + m) + (n + m) / 4 + 192) * bytes ≤ 281474976710656) (hbase : base ≤ w.heap.size)
    (hk : ∀ A' c' w', Owns f e base w' (.slice A' (n + m) c') (n + m) (l ++ l') → Below base w w' → K (a.put o.dst (.slice A' (n + m) c')) w') :
    Oper.wp P o a w K Q := by
  obtain ⟨s', w', hrun, h2, h3, -⟩ := run_append hf ht hinfo hzs w base sv n l hown A m c l' h hbig hby hbase
  obtain ⟨A', c', rfl⟩ := h2.slice
  unfold Oper.wp execOp
  simp only [ho, hty, resolve, invoke, builtin, Sem.run_bind, Sem.run_pure, Result.andThen_ok, List.map_toArray, List.map_cons, List.map_nil, hs, hx, hrun]
  exact hk A' c' w' h2 h3
end Mem
namespace OwnS
variable {α : Type} {cells : α → List Value} {k : Nat}
theorem wp_append1 {P : Program} (F : Fit cells k) {t e : TypeId} (ht : P.underlying t = some (.slice e)) {z : Value} {bytes : Nat} (hinfo : (P.info? e).map (fun i => (i.zero, i.size, i.bytes)) = some (some z, k, bytes)) (hzs : z.cells.size = k) (hb1 : bytes ≤ 256)
    {w : World} {o : Oper} {a : Act} {Q : Exit → Act → World → Prop} {K : Act → World → Prop} (s x : Operand)
    (ho : o.op = .call { callee := .builtin .append, args := #[s, x], argTypes := #[t, t] }) (hty : o.type = t)
    (base : Nat) (sv : Value) (n : Nat) (l : List α) (hs : a.eval s = sv) (hown : Owns cells k e base w sv n l) (A : Option Addr) (m c : Nat) (l' : List α) (hx : a.eval x = .slice A m c) (h : RowS cells k w A m c l')
    (hbig : n + m ≤ 1099511627) (hbase : base ≤ w.heap.size)
    (hk : ∀ A' c' w', Owns cells k e base w' (.slice A' (n + m) c') (n + m) (l ++ l') → w.grownBy w' sv.ownBlock → ((Value.slice A' (n + m) c').ownBlock = sv.ownBlock ∨ (Value.slice A' (n + m) c').ownBlock = some w.heap.size) → K (a.put o.dst (.slice A' (n + m) c')) w') :
    Oper.wp P o a w K Q := by
  obtain ⟨s', w', hrun, h2, h3, h4⟩ := run_append F ht hinfo hzs hb1 w base sv n l hown A m c l' h hbig hbase
  obtain ⟨A', c', rfl⟩ := h2.slice
  unfold Oper.wp execOp
  simp only [ho, hty, resolve, invoke, builtin, Sem.run_bind, Sem.run_pure, Result.andThen_ok, List.map_toArray, List.map_cons, List.map_nil, hs, hx, hrun]
  exact hk A' c' w' h2 h3 h4
end OwnS
end Go.Proofs.YtedandbkdjmfhaaGreat
