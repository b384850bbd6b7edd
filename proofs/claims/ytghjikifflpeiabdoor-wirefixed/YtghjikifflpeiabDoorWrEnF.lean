/-
  A request's bytes, part by part, with no program.
-/
import Derived.Test.YtghjikifflpeiabDoorRqEn
namespace Go.Proofs.YtghjikifflpeiabDoor
open Go.RowKit
def encTo (r : Rq) : Nat → List UInt8
  | 0 => [UInt8.ofNat r.kind.toNat]
  | 1 => [UInt8.ofNat r.kind.toNat] ++ partB (hasP r.kind 0) r.name
  | 2 => [UInt8.ofNat r.kind.toNat] ++ partB (hasP r.kind 0) r.name ++ partB (hasP r.kind 1) r.key
  | 3 => [UInt8.ofNat r.kind.toNat] ++ partB (hasP r.kind 0) r.name ++ partB (hasP r.kind 1) r.key ++ partB (hasP r.kind 2) r.last
  | _ => [UInt8.ofNat r.kind.toNat] ++ partB (hasP r.kind 0) r.name ++ partB (hasP r.kind 1) r.key ++ partB (hasP r.kind 2) r.last ++ partB (hasP r.kind 3) r.value
theorem encTo_all (r : Rq) : encTo r 4 = reqB r := by
  show [UInt8.ofNat r.kind.toNat] ++ partB (namedK r.kind) r.name ++ partB (namedK r.kind) r.key ++ partB (decide (r.kind = 3)) r.last ++ partB (decide (r.kind = 4)) r.value = _
  rw [reqB, restB]; simp [List.append_assoc]
theorem encTo_len {r : Rq} (h : RqOK r) (m : Nat) : (encTo r m).length ≤ 200 := by
  have k1 : r.name.length ≤ 8 := by
    by_cases e : namedK r.kind = true
    · exact (h.name e).2
    · rw [h.noName (by simpa using e)]; simp
  have k2 : r.key.length ≤ 16 := by
    by_cases e : namedK r.kind = true
    · exact (h.key e).2
    · rw [h.noKey (by simpa using e)]; simp
  have k3 : r.last.length ≤ 16 := by
    by_cases e : r.kind = 3
    · exact (h.last e).2
    · rw [h.noLast e]; simp
  have k4 := h.value
  have l1 := partB_len (hasP r.kind 0) r.name
  have l2 := partB_len (hasP r.kind 1) r.key
  have l3 := partB_len (hasP r.kind 2) r.last
  have l4 := partB_len (hasP r.kind 3) r.value
  match m with
  | 0 => simp [encTo]
  | 1 => simp only [encTo, List.length_append, List.length_singleton]; omega
  | 2 => simp only [encTo, List.length_append, List.length_singleton]; omega
  | 3 => simp only [encTo, List.length_append, List.length_singleton]; omega
  | m + 4 => simp only [encTo, List.length_append, List.length_singleton]; omega
end Go.Proofs.YtghjikifflpeiabDoor
