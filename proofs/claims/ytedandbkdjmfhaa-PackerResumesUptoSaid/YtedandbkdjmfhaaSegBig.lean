/-
  THE STATEMENTS' OWN TEST of how great records are (Big), and what it says of their frames.
-/
import Derived.Test.YtedandbkdjmfhaaSegLive
import Derived.Test.YtedandbkdjmfhaaSegOpen
namespace Go.Proofs.Ytedandbkdjmfhaa
open Go.RowKit Mem
namespace Seg
open Wire

/-- What Big reckons, as an int goes round. -/
def bulkR (l : List Rc) : Int := l.foldl (fun z r => wrap64 (z + ((r.data.length : Int) + 20))) 0
/-- .. and what it would be without going round. -/
def weigh (l : List Rc) : Nat := (l.map fun r => r.data.length + 20).sum
theorem weigh_cons (r : Rc) (l : List Rc) : weigh (r :: l) = r.data.length + 20 + weigh l := by simp [weigh]
theorem bulk_from : ∀ (l : List Rc) (z : Nat), z + weigh l < 9223372036854775808 → l.foldl (fun (z : Int) r => wrap64 (z + ((r.data.length : Int) + 20))) (z : Int) = ((z + weigh l : Nat) : Int) := by
  intro l
  induction l with
  | nil => intro z _; simp [weigh]
  | cons r l ih =>
    intro z h
    rw [weigh_cons] at h
    rw [List.foldl_cons]
    have e : wrap64 ((z : Int) + ((r.data.length : Int) + 20)) = ((z + (r.data.length + 20) : Nat) : Int) := by
      unfold wrap64
      omega
    rw [e, ih _ (by omega), weigh_cons]
    congr 1; omega
theorem bulk_weigh {l : List Rc} (h : weigh l < 9223372036854775808) : bulkR l = (weigh l : Int) := by
  have := bulk_from l 0 (by omega)
  unfold bulkR
  rw [show (0 : Int) = ((0 : Nat) : Int) from rfl, this]
  simp
/-- A frame is not much longer than its bytes. -/
theorem frame_rec_len {r : Rc} (hf : fits (nums r)) (hd : r.data.length ≤ 140737488355328) : (frame (recX r)).length ≤ 5 * (r.data.length + 20) := by
  have h1 := encs_len (l := (nums r).map Int.toNat) (fun n hn => by
    obtain ⟨z, hz, rfl⟩ := List.mem_map.1 hn
    have := hf z hz
    omega)
  have h2 : ((nums r).map Int.toNat).length = 6 := rfl
  have h3 := enc_len_le (n := r.data.length) (by omega)
  have h4 : (recX r).length ≤ 70 + r.data.length := by
    rw [recX, List.length_append, encV, List.length_append]
    omega
  have h5 := enc_len_le (n := (recX r).length) (by omega)
  rw [frame_len]
  omega
theorem frames_weigh : ∀ l : List Rc, goods l → (∀ r ∈ l, r.data.length ≤ 140737488355328) → (frames l).length ≤ 5 * weigh l := by
  intro l
  induction l with
  | nil => intro _ _; simp [frames, weigh]
  | cons r l ih =>
    intro h1 h2
    have e1 := frame_rec_len (h1 r (by simp)) (h2 r (by simp))
    have e2 := ih (fun x hx => h1 x (by simp [hx])) (fun x hx => h2 x (by simp [hx]))
    rw [frames_cons, List.length_append, weigh_cons]
    omega

set_option maxRecDepth 100000 in
set_option maxHeartbeats 1600000 in
theorem big_any {most : Int} {A : Option Addr} {n c : Nat} {xs : List Rv} {w : World} (h : RowR w A n c xs) :
    Calls Try.prog 7 #[.int .i64 most, .slice A n c] w fun e w' => e = .returned (.bool (decide (most < bulkR (xs.map Rv.r)))) ∧ Below w.heap.size w w' := by
  have HR := Lib.hid h
  have hbig := h.big
  clear h
  go_enter Try.func7, Try.ntmps7
  go_wp2_with fail
  go_loopw [5, 10] (fun x i wr => ∃ (k : Nat) (z : Int), k ≤ n ∧ i = .int .i64 k ∧ x = .int .i64 z ∧ Hid (bulkR ((xs.map Rv.r).take k) = z) ∧ Hid (Below w.heap.size w wr)) (fun _ i _ => n - (intOf i).toNat)
  case atStart => exact ⟨0, 0, by omega, rfl, rfl, rfl, Below.refl _ _⟩
  case round =>
    obtain ⟨k, z, hk, rfl, rfl, hZ, hB⟩ := hrel
    by_cases hlt : k < n
    · obtain ⟨x, hx⟩ := HR.out.get hlt
      obtain ⟨b0, o0, rfl, hb0, hcell⟩ := HR.out.seven hx
      obtain ⟨q0, q1, q2, q3, q4, q5, q6⟩ := hcell wr (hB.out.block b0 hb0)
      have hxr : (xs.map Rv.r)[k]? = some x.r := by rw [List.getElem?_map, hx]; rfl
      have hm2 := (HR.out.data x (List.mem_of_getElem? hx)).big
      have R : Hid (bulkR ((xs.map Rv.r).take (k + 1)) = wrap64 (z + ((x.r.data.length : Int) + 20))) := by
        show _ = _
        rw [List.take_add_one, hxr]
        have := hZ.out
        unfold bulkR at this ⊢
        rw [List.foldl_append, this]
        rfl
      clear hcell hx hxr
      go_wp2_with fail
      go_roundw
      case rel => exact ⟨k + 1, _, by omega, by go_num, rfl, R.out, hB.out.alloc hB.out.size _⟩
      case measure => simp [intOf]; omega
    · have hkn : (xs.map Rv.r).take k = xs.map Rv.r := List.take_of_length_le (by have := HR.out.len; simp; omega)
      have HK := Lib.hid hkn
      clear hkn
      go_wp2_with fail
      go_ret
      exact ⟨ret_bool (by rw [← hZ.out, HK.out]), hB.out⟩
end Seg
end Go.Proofs.Ytedandbkdjmfhaa
