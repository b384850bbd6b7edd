/-
  A list of writes of the call's own, as slices.SortFunc's contract asks it, and behind it.
-/
import Derived.Test.YtljdconhplgipabPart2
import Derived.Test.YtljdconhplgipabPart5
import Derived.Shelf.SlSortCmp.WholeK
namespace Go.Proofs.Ytljdconhplgipab
open Go.RowKit Go.Shelf Go.Sort
/-- What a place of the row holds: a write, and where its parts lie. -/
def EltOK (w : World) (x : WV) : Prop := PartIs 0 w x.2.1 x.1.name ∧ PartIs 0 w x.2.2.1 x.1.key ∧ PartIs 0 w x.2.2.2 x.1.value
abbrev Elt (w : World) : Type := { x : WV // EltOK w x }
theorem part_nil0 (w : World) : PartIs 0 w (.slice none 0 0) [] := ⟨sliceIs_nil w, .inl rfl⟩
instance (w : World) : Inhabited (Elt w) := ⟨⟨(noPlc, .slice none 0 0, .slice none 0 0, .slice none 0 0), part_nil0 w, part_nil0 w, part_nil0 w⟩⟩
def encE {w : World} (x : Elt w) : List Value := [x.1.2.1, x.1.2.2.1, .bool x.1.1.gone, x.1.2.2.2]
def cfE {w : World} (x y : Elt w) : Int := cmpP x.1.1 y.1.1
theorem ltE {w : World} (x y : Elt w) : ltOf cfE x y = plt x.1.1 y.1.1 := by
  unfold ltOf cfE
  have := cmpP_neg x.1.1 y.1.1
  cases h : plt x.1.1 y.1.1 with
  | true => rw [h] at this; simp [this.2 rfl]
  | false => rw [h] at this; simp only [decide_eq_false_iff_not]; intro e; cases this.1 e
theorem swoE (w : World) : SWO (ltOf (cfE (w := w))) := ⟨fun x => by rw [ltE]; exact plt_irrefl _, fun x y z h1 h2 => by rw [ltE] at *; exact plt_trans h1 h2, fun x y z h1 h2 => by rw [ltE] at *; exact plt_ntrans h1 h2⟩
theorem encE_len {w : World} (x : Elt w) : (encE x).length = 4 := rfl
theorem encE_one {w : World} (x : Elt w) : ∀ v ∈ encE x, v.oneCell' = true := by
  intro v hv
  simp only [encE, List.mem_cons, List.not_mem_nil, or_false] at hv
  rcases hv with rfl | rfl | rfl | rfl
  · exact part_oneCell x.2.1
  · exact part_oneCell x.2.2.1
  · rfl
  · exact part_oneCell x.2.2.2
theorem flatK_get {w : World} (d : Array (Elt w)) (t : Nat) (h : t < d.size * 4) : (flatW (d.toList.map (·.1)))[t]? = some ((flatK encE 4 d)[t]!) := by
  rw [get_flatK _ _ _ t h]
  have hi : t / 4 < d.size := by omega
  obtain ⟨c1, c2, c3, c4⟩ := flatW_get (d.toList.map (·.1)) (t / 4) (by simpa using hi)
  have e : (d.toList.map (·.1)).getD (t / 4) noWV = (d[t / 4]!).1 := by simp [hi]
  rw [e] at c1 c2 c3 c4
  have hr : t % 4 < 4 := Nat.mod_lt _ (by omega)
  have ht : t = t / 4 * 4 + t % 4 := by omega
  generalize t % 4 = r at *
  generalize t / 4 = q at *
  subst ht
  match r, hr with
  | 0, _ => exact c1
  | 1, _ => exact c2
  | 2, _ => exact c3
  | 3, _ => exact c4
theorem sw_grown {α : Type} [Inhabited α] (enc : α → List Value) (k : Nat) (w : World) (blk off m : Nat) (dk : Array α) (os : Array Obj) : w.grownBy (sortWorldK enc k w blk off m dk os) (some blk) := by
  refine ⟨rfl, rfl, rfl, by simp [sortWorldK, Go.Sort.grow, putRowK, putRow, mapBlock, Go.Sort.ahead], fun i hi hn => ?_⟩
  have hne : blk ≠ i := fun e => hn (by rw [e])
  simp only [sortWorldK, Go.Sort.grow, putRowK, putRow, mapBlock, Go.Sort.ahead]
  rw [Array.getElem?_append_left (by simpa using hi), Array.getElem?_modify, if_neg hne]
theorem sw_block {α : Type} [Inhabited α] (enc : α → List Value) (k : Nat) (w : World) (blk off m : Nat) (dk : Array α) (os : Array Obj) {c : Array Value} {e : TypeId} {fr : Nat × Nat} (h : w.heap[blk]? = some (.cells c e fr)) : (sortWorldK enc k w blk off m dk os).heap[blk]? = some (.cells (putCells id off (flatK enc k dk) c) e fr) := by
  simp only [sortWorldK, Go.Sort.grow, putRowK, putRow, mapBlock, Go.Sort.ahead]
  rw [Array.getElem?_append_left (by simpa using (Array.getElem?_eq_some_iff.1 h).1), Array.getElem?_modify, if_pos rfl, h]
  rfl
theorem putCells_take {w : World} (d : Array (Elt w)) (c : Array Value) (h : d.size * 4 ≤ c.size) : (putCells id 0 (flatK encE 4 d) c).toList.take (d.size * 4) = flatW (d.toList.map (·.1)) := by
  have hlen : (flatW (d.toList.map (·.1))).length = d.size * 4 := by rw [flatW_len]; simp
  apply List.ext_getElem?
  intro t
  rw [List.getElem?_take]
  by_cases ht : t < d.size * 4
  · rw [if_pos ht, flatK_get d t ht]
    simp only [putCells, Array.getElem?_toList, Array.getElem?_mapIdx]
    rw [Array.getElem?_eq_getElem (show t < c.size by omega), Option.map_some, if_pos ⟨by omega, by rw [size_flatK]; omega⟩]
    rfl
  · rw [if_neg ht, List.getElem?_eq_none (by omega)]
theorem elts_of {w : World} : ∀ (us : List WV), (∀ x ∈ us, EltOK w x) → ∃ d : Array (Elt w), d.toList.map (·.1) = us
  | [], _ => ⟨#[], rfl⟩
  | x :: us, h => by
    obtain ⟨d, hd⟩ := elts_of us fun y hy => h y (List.mem_cons_of_mem _ hy)
    exact ⟨((⟨x, h x (List.mem_cons_self ..)⟩ : Elt w) :: d.toList).toArray, by simp [hd]⟩
theorem OwnV.sorts {rb : Nat} {w : World} {g cap n : Nat} {l : List Plc} (h : OwnV rb 0 w (.slice (some ⟨g, 0, none⟩) n cap) l) : ∃ d : Array (Elt w), d.toList.map (·.1.1) = l ∧ d.size = n ∧ n = l.length ∧ HoldsK encE 4 w g 0 d ∧ g < w.heap.size ∧ (∃ cur, w.heap[g]? = some (.cells cur 35)) ∧ ∀ (d' : Array (Elt w)) (m : Nat) (os : Array Obj), d'.size = d.size → OwnV rb 0 (sortWorldK encE 4 w g 0 m d' os) (.slice (some ⟨g, 0, none⟩) n cap) (d'.toList.map (·.1.1)) := by
  obtain ⟨us, hul, hr, hp⟩ := h
  rcases hr.2 with ⟨e, _⟩ | ⟨g', cap', cur, e, hb, hg, hn, hm, hs, ht⟩
  · cases e
  · simp only [Value.slice.injEq, Option.some.injEq, Addr.mk.injEq] at e
    obtain ⟨⟨rfl, _⟩, rfl, rfl⟩ := e
    have hus : us.length = l.length := by rw [← hul]; simp
    obtain ⟨d, hd⟩ : ∃ d : Array (Elt w), d.toList.map (·.1) = us := elts_of us hp
    have hds : d.size = l.length := by rw [← hus, ← hd]; simp
    have hbl : (⟨g, 0, none⟩ : Addr).block = g := rfl
    refine ⟨d, by rw [← hul, ← hd, List.map_map]; rfl, hds, rfl, ?_, (Array.getElem?_eq_some_iff.1 hg).1, ⟨cur, hg⟩, ?_⟩
    · intro j hj
      rw [size_flatK] at hj
      have hj2 := flatK_get d j hj
      rw [hd, ← ht, List.getElem?_take, if_pos (by rw [← hds]; exact hj)] at hj2
      refine ⟨?_, by simp [World.frozen?, hg]⟩
      simp only [World.cell?, hg, Nat.zero_add]
      simpa using hj2
    · intro d' m os hd'
      have hsz : d'.toList.length = l.length := by rw [Array.length_toList]; omega
      refine ⟨d'.toList.map (·.1), by rw [List.map_map]; rfl, ⟨by rw [flatW_len, List.length_map, List.length_map], .inr ⟨g, cap, _, by rw [List.length_map, hsz], hb, sw_block _ _ _ _ _ _ _ _ hg, by rw [List.length_map, hsz]; exact hn, hm, by simp [putCells, hs], ?_⟩⟩, ?_⟩
      · rw [List.length_map, Array.length_toList]
        exact putCells_take d' cur (by rw [hs, hd', hds]; omega)
      · intro x hx
        obtain ⟨y, _, rfl⟩ := List.mem_map.1 hx
        have hrow : (some g : Option Nat) = none ∨ ∃ g' cur t fz, (some g : Option Nat) = some g' ∧ 0 ≤ g' ∧ w.heap[g']? = some (.cells cur t fz) ∧ t ≠ 5 := .inr ⟨g, cur, _, _, rfl, Nat.zero_le _, hg, wrT5⟩
        have hgr := sw_grown encE 4 w g 0 m d' os
        exact ⟨y.2.1.keptT hgr hrow, y.2.2.1.keptT hgr hrow, y.2.2.2.keptT hgr hrow⟩
theorem permIn_list {α : Type} [Inhabited α] {d d' : Array α} (h : PermIn 0 d.size d d') : d'.toList.Perm d.toList := by
  have h3 := h.2.2
  rw [Array.extract_size] at h3
  rw [show d.size = d'.size from h.1.symm, Array.extract_size] at h3
  exact h3
theorem sortedIn_list {w : World} {d : Array (Elt w)} {n : Nat} (hn : n = d.size) (h : SortedIn (ltOf cfE) 0 n d) : Sorted (d.toList.map (·.1.1)) := by
  subst hn
  unfold Sorted
  rw [List.pairwise_map, List.pairwise_iff_getElem]
  intro i j hi hj hij
  rw [Array.length_toList] at hi hj
  have := h i j (Nat.zero_le _) hij hj
  rw [ltE, getElem!_pos d i hi, getElem!_pos d j hj] at this
  simpa using this
end Go.Proofs.Ytljdconhplgipab
