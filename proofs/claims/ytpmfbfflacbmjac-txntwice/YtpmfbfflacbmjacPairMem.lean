/-
  Lists of pairs in memory: as they are handed over, and as the call's own.
-/
import Derived.Test.YtpmfbfflacbmjacPairM0
import Derived.Maps.AppendAt
namespace Go.Proofs.Ytpmfbfflacbmjac
open Go.RowKit
/-- append(v, x..) of pairs onto pairs of the call's own. -/
theorem wpList_append_pairs {w : World} {ops : Array Oper} {rest : List Oper} {o : Oper} {a : Act} {Q : Exit → Act → World → Prop} (hgd : o.guard = none) (s x : Operand)
    (ho : o.op = .call { callee := .builtin .append, args := #[s, x], argTypes := #[41, 41] }) (base : Nat) (v : Value) (l : PL) (hs : a.eval s = v) (hown : OwnP base w v l)
    (us : List (Value × Value)) (m : PL) (hul : us.length = m.length) (hu : ∀ i, i < m.length → PartIs base w (us.getD i (undef, undef)).1 (m.getD i ([], [])).1 ∧ PartIs base w (us.getD i (undef, undef)).2 (m.getD i ([], [])).2)
    (ad : Addr) (cap : Nat) (hx : a.eval x = .slice (some ad) m.length cap) (hnews : ∀ j u, (flat us)[j]? = some u → w.cell? (ad.add j) = some u) (hl : (l.length + m.length) * 48 ≤ 140737488355328) (hbase : base ≤ w.heap.size)
    (h : ∀ v' w', OwnP base w' v' (l ++ m) → w.grownBy w' v.ownBlock → wpList Try.prog ops Q rest (a.put o.dst v') w') : wpList Try.prog ops Q (o :: rest) a w := by
  obtain ⟨i0, hi, hz0, hz1, hz2⟩ := info_parts infoPair
  have hrow := hown.row
  obtain ⟨vs, hvl, hr, hp⟩ := hown
  refine wpList_append_own _ hgd s x 41 ho base 80 i0 (.agg #[.slice none 0 0, .slice none 0 0]) 2 48 Try.underlying41 hi hz0 hz1 hz2 rfl (by decide) v l.length (flat vs) hs hr ad m.length cap (flat us) hx (by rw [flat_len, hul]) hnews ?_ (by unfold maxLen; omega) hl hbase ?_
  · intro u hu'
    obtain ⟨p, hp1, hp2⟩ := List.mem_flatMap.1 hu'
    obtain ⟨i, hi, rfl⟩ := List.mem_iff_getElem.1 hp1
    have := hu i (by omega)
    rw [show us.getD i (undef, undef) = us[i] by simp [hi]] at this
    simp only [List.mem_cons, List.not_mem_nil, or_false] at hp2
    rcases hp2 with rfl | rfl
    · exact part_oneCell this.1
    · exact part_oneCell this.2
  · intro v' w' h1 h2 _
    refine h v' w' ⟨vs ++ us, by simp [hvl, hul], ?_, ?_⟩ h2
    · rw [flat_append, List.length_append]; exact h1
    · intro i hi
      rw [getD_append, getD_append, hvl]
      by_cases hil : i < l.length
      · rw [if_pos hil, if_pos hil]
        exact ⟨(hp i hil).1.kept h2 hrow, (hp i hil).2.kept h2 hrow⟩
      · rw [if_neg hil, if_neg hil]
        have := hu (i - l.length) (by simp at hi; omega)
        exact ⟨this.1.kept h2 hrow, this.2.kept h2 hrow⟩
/-- The same, of whatever pairs, none of them too. -/
theorem wpList_append_plist {w : World} {ops : Array Oper} {rest : List Oper} {o : Oper} {a : Act} {Q : Exit → Act → World → Prop} (hgd : o.guard = none) (s x : Operand)
    (ho : o.op = .call { callee := .builtin .append, args := #[s, x], argTypes := #[41, 41] }) (base : Nat) (v : Value) (l : PL) (hs : a.eval s = v) (hown : OwnP base w v l)
    (xa : Option Addr) (n cap : Nat) (m : PL) (hx : a.eval x = .slice xa n cap) (hsrc : PartsIs base w (.slice xa n cap) m) (hl : (l.length + m.length) * 48 ≤ 140737488355328) (hbase : base ≤ w.heap.size)
    (h : ∀ v' w', OwnP base w' v' (l ++ m) → w.grownBy w' v.ownBlock → wpList Try.prog ops Q rest (a.put o.dst v') w') : wpList Try.prog ops Q (o :: rest) a w := by
  obtain ⟨us, a', cap', e, hul, hu, hc⟩ := hsrc
  simp only [Value.slice.injEq] at e
  obtain ⟨rfl, rfl, rfl⟩ := e
  cases xa with
  | some ad =>
    refine wpList_append_pairs hgd s x ho base v l hs hown us m hul hu ad cap hx ?_ hl hbase h
    rcases hc with hc | ⟨ad', e, hc⟩
    · cases hc.1
    · cases e; exact hc
  | none =>
    have hm : m = [] := by
      rcases hc with hc | ⟨ad', e, _⟩
      · exact hc.2.1
      · cases e
    have hcap : cap = 0 := by
      rcases hc with hc | ⟨ad', e, _⟩
      · exact hc.2.2
      · cases e
    subst hm hcap
    rw [List.append_nil] at h
    have hown' := hown
    obtain ⟨vs, hvl, hr, hp⟩ := hown
    obtain ⟨i0, hi, hz0, hz1, hz2⟩ := info_parts infoPair
    have hrun := run_append_owned_none (P := Try.prog) (w := w) base 41 o.type 80 i0 2 Try.underlying41 hi v l.length (flat vs) hr
    refine wpList_plain hgd fun K hK => ?_
    unfold Oper.wp
    simp [execOp, ho, resolve, invoke, builtin, hs, hx, Result.andThen] at hrun ⊢
    rw [hrun]
    exact hK _ _ (h v w hown' (grown_refl _ _))
/-- append(v, x) of one pair. -/
theorem wpList_append_pair {w0 w : World} {ops : Array Oper} {rest : List Oper} {o : Oper} {a : Act} {Q : Exit → Act → World → Prop} (hgd : o.guard = none) (s x : Operand)
    (ho : o.op = .call { callee := .builtin .append, args := #[s, x], argTypes := #[41, 41] }) (base : Nat) (v : Value) (l : PL) (hs : a.eval s = v) (hown : OwnP base w0 v l)
    (vk vv : Value) (p : Pr) (hk : PartIs base w0 vk p.1) (hv : PartIs base w0 vv p.2) (hw : w = w0.alloc (.cells #[vk, vv] 80))
    (nb : Nat) (hx : a.eval x = .slice (some ⟨nb, 0, none⟩) 1 1) (hnb : nb = w0.heap.size) (hl : (l.length + 1) * 48 ≤ 140737488355328) (hbase : base ≤ w0.heap.size)
    (h : ∀ v' w', OwnP base w' v' (l ++ [p]) → w.grownBy w' v.ownBlock → wpList Try.prog ops Q rest (a.put o.dst v') w') : wpList Try.prog ops Q (o :: rest) a w := by
  subst hw hnb
  have hga : w0.grownBy (w0.alloc (.cells #[vk, vv] 80)) none := World.grownBy_alloc _ _ _
  refine wpList_append_pairs hgd s x ho base v l hs (hown.alloc _) [(vk, vv)] [p] rfl ?_ ⟨w0.heap.size, 0, none⟩ 1 hx ?_ hl (by simp; omega) h
  · intro i hi
    obtain rfl : i = 0 := by simpa using hi
    exact ⟨hk.kept hga (.inl rfl), hv.kept hga (.inl rfl)⟩
  · intro j u hj
    match j, hj with
    | 0, hj => simp [flat] at hj; subst hj; simp [Addr.add]
    | 1, hj => simp [flat] at hj; subst hj; simp [Addr.add]
/-- append(v, x..) of pairs onto pairs of the call's own. -/
theorem wpList_append_pairsQ {w : World} {ops : Array Oper} {rest : List Oper} {o : Oper} {a : Act} {Q : Exit → Act → World → Prop} (hgd : o.guard = none) (s x : Operand)
    (ho : o.op = .call { callee := .builtin .append, args := #[s, x], argTypes := #[41, 41] }) (rb base : Nat) (hrb : base ≤ rb) (v : Value) (l : PL) (hs : a.eval s = v) (hown : OwnQ rb base w v l)
    (us : List (Value × Value)) (m : PL) (hul : us.length = m.length) (hu : ∀ i, i < m.length → PartIs base w (us.getD i (undef, undef)).1 (m.getD i ([], [])).1 ∧ PartIs base w (us.getD i (undef, undef)).2 (m.getD i ([], [])).2)
    (ad : Addr) (cap : Nat) (hx : a.eval x = .slice (some ad) m.length cap) (hnews : ∀ j u, (flat us)[j]? = some u → w.cell? (ad.add j) = some u) (hl : (l.length + m.length) * 48 ≤ 140737488355328) (hbase : rb ≤ w.heap.size)
    (h : ∀ v' w', OwnQ rb base w' v' (l ++ m) → w.grownBy w' v.ownBlock → wpList Try.prog ops Q rest (a.put o.dst v') w') : wpList Try.prog ops Q (o :: rest) a w := by
  obtain ⟨i0, hi, hz0, hz1, hz2⟩ := info_parts infoPair
  have hrow := hown.row hrb
  obtain ⟨vs, hvl, hr, hp⟩ := hown
  refine wpList_append_own _ hgd s x 41 ho rb 80 i0 (.agg #[.slice none 0 0, .slice none 0 0]) 2 48 Try.underlying41 hi hz0 hz1 hz2 rfl (by decide) v l.length (flat vs) hs hr ad m.length cap (flat us) hx (by rw [flat_len, hul]) hnews ?_ (by unfold maxLen; omega) hl hbase ?_
  · intro u hu'
    obtain ⟨p, hp1, hp2⟩ := List.mem_flatMap.1 hu'
    obtain ⟨i, hi, rfl⟩ := List.mem_iff_getElem.1 hp1
    have := hu i (by omega)
    rw [show us.getD i (undef, undef) = us[i] by simp [hi]] at this
    simp only [List.mem_cons, List.not_mem_nil, or_false] at hp2
    rcases hp2 with rfl | rfl
    · exact part_oneCell this.1
    · exact part_oneCell this.2
  · intro v' w' h1 h2 _
    refine h v' w' ⟨vs ++ us, by simp [hvl, hul], ?_, ?_⟩ h2
    · rw [flat_append, List.length_append]; exact h1
    · intro i hi
      rw [getD_append, getD_append, hvl]
      by_cases hil : i < l.length
      · rw [if_pos hil, if_pos hil]
        exact ⟨(hp i hil).1.kept h2 hrow, (hp i hil).2.kept h2 hrow⟩
      · rw [if_neg hil, if_neg hil]
        have := hu (i - l.length) (by simp at hi; omega)
        exact ⟨this.1.kept h2 hrow, this.2.kept h2 hrow⟩
/-- The same, of whatever pairs, none of them too. -/
theorem wpList_append_plistQ {w : World} {ops : Array Oper} {rest : List Oper} {o : Oper} {a : Act} {Q : Exit → Act → World → Prop} (hgd : o.guard = none) (s x : Operand)
    (ho : o.op = .call { callee := .builtin .append, args := #[s, x], argTypes := #[41, 41] }) (rb base : Nat) (hrb : base ≤ rb) (v : Value) (l : PL) (hs : a.eval s = v) (hown : OwnQ rb base w v l)
    (xa : Option Addr) (n cap : Nat) (m : PL) (hx : a.eval x = .slice xa n cap) (hsrc : PartsIs base w (.slice xa n cap) m) (hl : (l.length + m.length) * 48 ≤ 140737488355328) (hbase : rb ≤ w.heap.size)
    (h : ∀ v' w', OwnQ rb base w' v' (l ++ m) → w.grownBy w' v.ownBlock → wpList Try.prog ops Q rest (a.put o.dst v') w') : wpList Try.prog ops Q (o :: rest) a w := by
  obtain ⟨us, a', cap', e, hul, hu, hc⟩ := hsrc
  simp only [Value.slice.injEq] at e
  obtain ⟨rfl, rfl, rfl⟩ := e
  cases xa with
  | some ad =>
    refine wpList_append_pairsQ hgd s x ho rb base hrb v l hs hown us m hul hu ad cap hx ?_ hl hbase h
    rcases hc with hc | ⟨ad', e, hc⟩
    · cases hc.1
    · cases e; exact hc
  | none =>
    have hm : m = [] := by
      rcases hc with hc | ⟨ad', e, _⟩
      · exact hc.2.1
      · cases e
    have hcap : cap = 0 := by
      rcases hc with hc | ⟨ad', e, _⟩
      · exact hc.2.2
      · cases e
    subst hm hcap
    rw [List.append_nil] at h
    have hown' := hown
    obtain ⟨vs, hvl, hr, hp⟩ := hown
    obtain ⟨i0, hi, hz0, hz1, hz2⟩ := info_parts infoPair
    have hrun := run_append_owned_none (P := Try.prog) (w := w) rb 41 o.type 80 i0 2 Try.underlying41 hi v l.length (flat vs) hr
    refine wpList_plain hgd fun K hK => ?_
    unfold Oper.wp
    simp [execOp, ho, resolve, invoke, builtin, hs, hx, Result.andThen] at hrun ⊢
    rw [hrun]
    exact hK _ _ (h v w hown' (grown_refl _ _))
/-- append(v, x) of one pair. -/
theorem wpList_append_pairQ {w0 w : World} {ops : Array Oper} {rest : List Oper} {o : Oper} {a : Act} {Q : Exit → Act → World → Prop} (hgd : o.guard = none) (s x : Operand)
    (ho : o.op = .call { callee := .builtin .append, args := #[s, x], argTypes := #[41, 41] }) (rb base : Nat) (hrb : base ≤ rb) (v : Value) (l : PL) (hs : a.eval s = v) (hown : OwnQ rb base w0 v l)
    (vk vv : Value) (p : Pr) (hk : PartIs base w0 vk p.1) (hv : PartIs base w0 vv p.2) (hw : w = w0.alloc (.cells #[vk, vv] 80))
    (nb : Nat) (hx : a.eval x = .slice (some ⟨nb, 0, none⟩) 1 1) (hnb : nb = w0.heap.size) (hl : (l.length + 1) * 48 ≤ 140737488355328) (hbase : rb ≤ w0.heap.size)
    (h : ∀ v' w', OwnQ rb base w' v' (l ++ [p]) → w.grownBy w' v.ownBlock → wpList Try.prog ops Q rest (a.put o.dst v') w') : wpList Try.prog ops Q (o :: rest) a w := by
  subst hw hnb
  have hga : w0.grownBy (w0.alloc (.cells #[vk, vv] 80)) none := World.grownBy_alloc _ _ _
  refine wpList_append_pairsQ hgd s x ho rb base hrb v l hs (hown.alloc _) [(vk, vv)] [p] rfl ?_ ⟨w0.heap.size, 0, none⟩ 1 hx ?_ hl (by simp; omega) h
  · intro i hi
    obtain rfl : i = 0 := by simpa using hi
    exact ⟨hk.kept hga (.inl rfl), hv.kept hga (.inl rfl)⟩
  · intro j u hj
    match j, hj with
    | 0, hj => simp [flat] at hj; subst hj; simp [Addr.add]
    | 1, hj => simp [flat] at hj; subst hj; simp [Addr.add]
/-- append(v, x..) of pairs onto pairs of the call's own. -/
theorem wpList_append_pairs_at {w : World} {ops : Array Oper} {rest : List Oper} {o : Oper} {a : Act} {Q : Exit → Act → World → Prop} (hgd : o.guard = none) (s x : Operand)
    (ho : o.op = .call { callee := .builtin .append, args := #[s, x], argTypes := #[41, 41] }) (base : Nat) (v : Value) (l : PL) (hs : a.eval s = v) (hown : OwnP base w v l)
    (us : List (Value × Value)) (m : PL) (hul : us.length = m.length) (hu : ∀ i, i < m.length → PartIs base w (us.getD i (undef, undef)).1 (m.getD i ([], [])).1 ∧ PartIs base w (us.getD i (undef, undef)).2 (m.getD i ([], [])).2)
    (ad : Addr) (cap : Nat) (hx : a.eval x = .slice (some ad) m.length cap) (hnews : ∀ j u, (flat us)[j]? = some u → w.cell? (ad.add j) = some u) (hl : (l.length + m.length) * 48 ≤ 140737488355328) (hbase : base ≤ w.heap.size)
    (h : ∀ v' w', OwnP base w' v' (l ++ m) → w.grownBy w' v.ownBlock → (v'.ownBlock = v.ownBlock ∨ v'.ownBlock = some w.heap.size) → wpList Try.prog ops Q rest (a.put o.dst v') w') : wpList Try.prog ops Q (o :: rest) a w := by
  obtain ⟨i0, hi, hz0, hz1, hz2⟩ := info_parts infoPair
  have hrow := hown.row
  obtain ⟨vs, hvl, hr, hp⟩ := hown
  refine wpList_append_own_at _ hgd s x 41 ho base 80 i0 (.agg #[.slice none 0 0, .slice none 0 0]) 2 48 Try.underlying41 hi hz0 hz1 hz2 rfl (by decide) v l.length (flat vs) hs hr ad m.length cap (flat us) hx (by rw [flat_len, hul]) hnews ?_ (by unfold maxLen; omega) hl hbase ?_
  · intro u hu'
    obtain ⟨p, hp1, hp2⟩ := List.mem_flatMap.1 hu'
    obtain ⟨i, hi, rfl⟩ := List.mem_iff_getElem.1 hp1
    have := hu i (by omega)
    rw [show us.getD i (undef, undef) = us[i] by simp [hi]] at this
    simp only [List.mem_cons, List.not_mem_nil, or_false] at hp2
    rcases hp2 with rfl | rfl
    · exact part_oneCell this.1
    · exact part_oneCell this.2
  · intro v' w' h1 h2 _ h5
    refine h v' w' ⟨vs ++ us, by simp [hvl, hul], ?_, ?_⟩ h2 h5
    · rw [flat_append, List.length_append]; exact h1
    · intro i hi
      rw [getD_append, getD_append, hvl]
      by_cases hil : i < l.length
      · rw [if_pos hil, if_pos hil]
        exact ⟨(hp i hil).1.kept h2 hrow, (hp i hil).2.kept h2 hrow⟩
      · rw [if_neg hil, if_neg hil]
        have := hu (i - l.length) (by simp at hi; omega)
        exact ⟨this.1.kept h2 hrow, this.2.kept h2 hrow⟩
/-- append(v, x) of one pair. -/
theorem wpList_append_pair_at {w0 w : World} {ops : Array Oper} {rest : List Oper} {o : Oper} {a : Act} {Q : Exit → Act → World → Prop} (hgd : o.guard = none) (s x : Operand)
    (ho : o.op = .call { callee := .builtin .append, args := #[s, x], argTypes := #[41, 41] }) (base : Nat) (v : Value) (l : PL) (hs : a.eval s = v) (hown : OwnP base w0 v l)
    (vk vv : Value) (p : Pr) (hk : PartIs base w0 vk p.1) (hv : PartIs base w0 vv p.2) (hw : w = w0.alloc (.cells #[vk, vv] 80))
    (nb : Nat) (hx : a.eval x = .slice (some ⟨nb, 0, none⟩) 1 1) (hnb : nb = w0.heap.size) (hl : (l.length + 1) * 48 ≤ 140737488355328) (hbase : base ≤ w0.heap.size)
    (h : ∀ v' w', OwnP base w' v' (l ++ [p]) → w.grownBy w' v.ownBlock → (v'.ownBlock = v.ownBlock ∨ v'.ownBlock = some (w0.heap.size + 1)) → wpList Try.prog ops Q rest (a.put o.dst v') w') : wpList Try.prog ops Q (o :: rest) a w := by
  subst hw hnb
  have hga : w0.grownBy (w0.alloc (.cells #[vk, vv] 80)) none := World.grownBy_alloc _ _ _
  refine wpList_append_pairs_at hgd s x ho base v l hs (hown.alloc _) [(vk, vv)] [p] rfl ?_ ⟨w0.heap.size, 0, none⟩ 1 hx ?_ hl (by simp; omega) (fun v' w' h1 h2 h3 => h v' w' h1 h2 (by simpa using h3))
  · intro i hi
    obtain rfl : i = 0 := by simpa using hi
    exact ⟨hk.kept hga (.inl rfl), hv.kept hga (.inl rfl)⟩
  · intro j u hj
    match j, hj with
    | 0, hj => simp [flat] at hj; subst hj; simp [Addr.add]
    | 1, hj => simp [flat] at hj; subst hj; simp [Addr.add]
end Go.Proofs.Ytpmfbfflacbmjac
