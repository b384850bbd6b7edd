/-
  The walk of canopykeep.TxnTwice, over what the code must keep.
-/
import Derived.Test.YtpmfbfflacbmjacKTxn
import Derived.Test.YtpmfbfflacbmjacPart2
import Derived.Test.YtpmfbfflacbmjacPicked
import Derived.Test.YtpmfbfflacbmjacPart7
namespace Go.Proofs.Ytpmfbfflacbmjac
open Go.RowKit
theorem writes_cellsB {w : World} {b o n cap : Nat} {l : List Plc} (h : WritesIs w (.slice (some ⟨b, o, none⟩) n cap) l) (i : Nat) (hi : i < l.length) : ∃ y1 y2 y3 y4 y5 y6, (w.cell? ⟨b, o + i * 4, none⟩ = some (.slice y1 (l.getD i noPlc).name.length y2) ∧ w.cell? ⟨b, o + i * 4 + 1, none⟩ = some (.slice y3 (l.getD i noPlc).key.length y4) ∧ w.cell? ⟨b, o + i * 4 + 2, none⟩ = some (.bool (l.getD i noPlc).gone) ∧ w.cell? ⟨b, o + i * 4 + 3, none⟩ = some (.slice y5 (l.getD i noPlc).value.length y6)) ∧ SliceIs w (.slice y1 (l.getD i noPlc).name.length y2) (l.getD i noPlc).name ∧ SliceIs w (.slice y3 (l.getD i noPlc).key.length y4) (l.getD i noPlc).key ∧ SliceIs w (.slice y5 (l.getD i noPlc).value.length y6) (l.getD i noPlc).value := by
  obtain ⟨b', o', e, hat⟩ := h.at i hi
  cases e
  obtain ⟨vn, vk, vv, c1, c2, c3, c4, s1, s2, s3⟩ := hat
  obtain ⟨y1, y2, rfl⟩ := s1.shape
  obtain ⟨y3, y4, rfl⟩ := s2.shape
  obtain ⟨y5, y6, rfl⟩ := s3.shape
  exact ⟨y1, y2, y3, y4, y5, y6, ⟨c1, c2, c3, c4⟩, s1, s2, s3⟩
theorem reads_cellsB {w : World} {b o n cap : Nat} {l : List Rd} (h : ReadsIs w (.slice (some ⟨b, o, none⟩) n cap) l) (i : Nat) (hi : i < l.length) : ∃ y1 y2 y3 y4 y5 y6, (w.cell? ⟨b, o + i * 4, none⟩ = some (.slice y1 (l.getD i noRd).name.length y2) ∧ w.cell? ⟨b, o + i * 4 + 1, none⟩ = some (.slice y3 (l.getD i noRd).key.length y4) ∧ w.cell? ⟨b, o + i * 4 + 2, none⟩ = some (.bool (l.getD i noRd).wide) ∧ w.cell? ⟨b, o + i * 4 + 3, none⟩ = some (.slice y5 (l.getD i noRd).last.length y6)) ∧ SliceIs w (.slice y1 (l.getD i noRd).name.length y2) (l.getD i noRd).name ∧ SliceIs w (.slice y3 (l.getD i noRd).key.length y4) (l.getD i noRd).key ∧ SliceIs w (.slice y5 (l.getD i noRd).last.length y6) (l.getD i noRd).last := by
  obtain ⟨b', o', e, hat⟩ := h.at i hi
  cases e
  obtain ⟨vn, vk, vv, c1, c2, c3, c4, s1, s2, s3⟩ := hat
  obtain ⟨y1, y2, rfl⟩ := s1.shape
  obtain ⟨y3, y4, rfl⟩ := s2.shape
  obtain ⟨y5, y6, rfl⟩ := s3.shape
  exact ⟨y1, y2, y3, y4, y5, y6, ⟨c1, c2, c3, c4⟩, s1, s2, s3⟩
theorem held_w {W w' : World} {tb c b o n cap : Nat} {x : Value} {l : List Plc} (hc : W.cell? ⟨tb, c, none⟩ = some x) (h : WritesIs W (.slice (some ⟨b, o, none⟩) n cap) l) (hg : W.grownBy w' none) : w'.cell? ⟨tb, c, none⟩ = some x ∧ (∀ j, j < l.length → w'.cell? ⟨b, o + j * 4, none⟩ = W.cell? ⟨b, o + j * 4, none⟩) ∧ (∀ j, j < l.length → w'.cell? ⟨b, o + j * 4 + 1, none⟩ = W.cell? ⟨b, o + j * 4 + 1, none⟩) ∧ (∀ j, j < l.length → w'.cell? ⟨b, o + j * 4 + 2, none⟩ = W.cell? ⟨b, o + j * 4 + 2, none⟩) ∧ (∀ j, j < l.length → w'.cell? ⟨b, o + j * 4 + 3, none⟩ = W.cell? ⟨b, o + j * 4 + 3, none⟩) := by
  refine ⟨hg.cell hc (by simp), ?_, ?_, ?_, ?_⟩ <;> intro j hjl <;> obtain ⟨_, _, _, _, _, _, ⟨x1, x2, x3, x4⟩, _⟩ := writes_cellsB h j hjl
  · rw [hg.cell x1 (by simp), x1]
  · rw [hg.cell x2 (by simp), x2]
  · rw [hg.cell x3 (by simp), x3]
  · rw [hg.cell x4 (by simp), x4]
theorem held_r {W w' : World} {tb c b o n cap : Nat} {x : Value} {l : List Rd} (hc : W.cell? ⟨tb, c, none⟩ = some x) (h : ReadsIs W (.slice (some ⟨b, o, none⟩) n cap) l) (hg : W.grownBy w' none) : w'.cell? ⟨tb, c, none⟩ = some x ∧ (∀ j, j < l.length → w'.cell? ⟨b, o + j * 4, none⟩ = W.cell? ⟨b, o + j * 4, none⟩) ∧ (∀ j, j < l.length → w'.cell? ⟨b, o + j * 4 + 1, none⟩ = W.cell? ⟨b, o + j * 4 + 1, none⟩) ∧ (∀ j, j < l.length → w'.cell? ⟨b, o + j * 4 + 2, none⟩ = W.cell? ⟨b, o + j * 4 + 2, none⟩) ∧ (∀ j, j < l.length → w'.cell? ⟨b, o + j * 4 + 3, none⟩ = W.cell? ⟨b, o + j * 4 + 3, none⟩) := by
  refine ⟨hg.cell hc (by simp), ?_, ?_, ?_, ?_⟩ <;> intro j hjl <;> obtain ⟨_, _, _, _, _, _, ⟨x1, x2, x3, x4⟩, _⟩ := reads_cellsB h j hjl
  · rw [hg.cell x1 (by simp), x1]
  · rw [hg.cell x2 (by simp), x2]
  · rw [hg.cell x3 (by simp), x3]
  · rw [hg.cell x4 (by simp), x4]
theorem lits11 (w W : World) (hW : W = (w.alloc (.cells #[.int .u8 1] 5)).alloc (.cells #[.int .u8 1] 5)) :
    SliceIs W (.slice (some ⟨w.heap.size, 0, none⟩) 1 1) [1] ∧ SliceIs W (.slice (some ⟨w.heap.size + 1, 0, none⟩) 1 1) [1] ∧ w.grownBy W none := by
  have s1 := one_slice w 1 5
  have s2 := one_slice (w.alloc (.cells #[.int .u8 1] 5)) 1 5
  rw [World.size_alloc] at s2
  rw [hW]
  exact ⟨s1.alloc _, s2, grown_alloc (World.grownBy_alloc _ _ _) _⟩
theorem look_badX {t : Tx} (h : txE t = 3) (n k : List UInt8) : lookE [] t n k = 3 := by
  have e : ftE [] t = 3 := by rw [ftE, if_pos ((forest_iff []).2 forest_nil), h]
  rw [lookE, e, if_neg (by decide)]
theorem txnT5 : (28 : Nat) ≠ 5 := by decide
theorem txnTW : (28 : Nat) ≠ 53 := by decide
theorem txnTR : (28 : Nat) ≠ 40 := by decide
theorem getD_memW {l : List Plc} {i : Nat} (h : i < l.length) : l.getD i noPlc ∈ l := by rw [show l.getD i noPlc = l[i] by simp [h]]; exact List.getElem_mem h
theorem getD_memR {l : List Rd} {i : Nat} (h : i < l.length) : l.getD i noRd ∈ l := by rw [show l.getD i noRd = l[i] by simp [h]]; exact List.getElem_mem h
set_option maxRecDepth 100000 in
set_option maxHeartbeats 4000000 in
theorem txnTwice_walk (hW : TxWriteOK) (hN : TxNoteOK) (hC : TxCheckOK) (hCl : TxClashOK) (hL : TxLookOK) (w : World) (v u : Value) (ws rs : List Plc) (n : Int) (hv : PlacesIs w v ws) (hl : FitsQ ws) (hs : PlacesIs w u rs) (hsl : FitsQ rs) (hn0 : -9223372036854775808 ≤ n) (hn1 : n ≤ 9223372036854775807) :
    Calls Try.prog 5 #[v, u, .int .i64 n] w fun e w' => e = .returned (.bool true) ∧ w.grownBy w' none := by
  obtain ⟨va, vc, rfl⟩ := hv.shape
  obtain ⟨sa, sc, rfl⟩ := hs.shape
  obtain ⟨hTO, hTs, hTw, hTr⟩ := txOf_ok ws rs
  have KT : Hid (∀ w', w.grownBy w' none → Calls Try.prog 7 #[.slice va ws.length vc, .slice sa rs.length sc] w' fun e w'' => ∃ t1 t2 t3 t4, e = .returned (.tuple #[.agg #[.int .i64 (txOf ws rs).start, .slice t1 (txOf ws rs).reads.length t2, .slice t3 (txOf ws rs).writes.length t4], .bool true]) ∧ TxIs w'' (.agg #[.int .i64 (txOf ws rs).start, .slice t1 (txOf ws rs).reads.length t2, .slice t3 (txOf ws rs).writes.length t4]) (txOf ws rs) ∧ w'.grownBy w'' none) := fun w' hg => ktxn_any hW hN hC w' _ _ ws rs (hv.grown hg) hl (hs.grown hg) hsl
  generalize txOf ws rs = T at *
  have HTO : Hid (TxOK T) := hTO
  have CK3 : Hid (∀ w' x t, TxIs w' x t → FitsX t → txE t = 3 → Calls Try.prog 18 #[x] w' fun e w'' => e = .returned (.int .i64 3) ∧ w'.grownBy w'' none) := fun w' x t h1 h2 h3 => by
    have := hC w' x t h1 h2
    rw [h3] at this
    exact this
  have CK2 : Hid (∀ w', Calls Try.prog 18 #[.agg #[.int .i64 (-1), .slice none 0 0, .slice none 0 0]] w' fun e w'' => e = .returned (.int .i64 2) ∧ w'.grownBy w'' none) := fun w' => by
    have := hC w' _ ⟨-1, [], []⟩ ⟨_, _, rfl, readsIs_nil w', writesIs_nil w'⟩ ⟨⟨by simp, by simp⟩, ⟨by simp, fun i hi => by simp at hi⟩, ⟨by simp, fun i hi => by simp at hi⟩⟩
    exact this
  have LK3 : Hid (∀ w' x t a b, TxIs w' x t → FitsX t → txE t = 3 → SliceIs w' a [1] → SliceIs w' b [1] → Calls Try.prog 19 #[.slice none 0 0, x, a, b] w' fun e w'' => ∃ c d x1 x2 x3, e = .returned (.tuple #[.agg #[.bool c, .slice x1 x2 x3], .bool d, .int .i64 3]) ∧ w'.grownBy w'' none) := fun w' x t a b h1 h2 h3 h4 h5 => by
    have := hL w' _ x a b [] t [1] [1] (tensIs_nil w') forest_nil.fits h1 h2 h4 h5 (by simp) (by simp)
    simp only [look_badX h3] at this
    refine this.mono ?_
    rintro e w'' ⟨z, rfl, hz, hg⟩
    obtain ⟨x1, x2, rfl⟩ := hz.shape
    exact ⟨_, _, x1, _, x2, rfl, hg⟩
  have CL3 : Hid (∀ w' x t, TxIs w' x t → FitsX t → txE t = 3 → Calls Try.prog 9 #[x, .slice none 0 0] w' fun e w'' => ∃ c, e = .returned (.tuple #[.bool c, .int .i64 3]) ∧ w'.grownBy w'' none) := fun w' x t h1 h2 h3 => by
    have := hCl w' x _ t [] h1 h2 (commitsIs_nil w') ⟨by simp, fun i hi => by simp at hi⟩
    rw [clashE, h3] at this
    exact this.mono (by rintro e w'' ⟨rfl, hg⟩; exact ⟨_, rfl, hg⟩)
  have PK : Hid (∀ (w' : World) (m : Nat), 0 < m → m ≤ 20 → Calls Try.prog 8 #[.int .i64 n, .int .i64 (m : Int)] w' fun e w'' => ∃ k : Nat, e = .returned (.int .i64 (k : Int)) ∧ k < m ∧ w'' = w') := fun w' m hm hm2 => by
    refine (picked_any n _ w' hn0 hn1 (by omega) (by omega)).mono ?_
    rintro e w'' ⟨k, rfl, hk, rfl⟩
    exact ⟨k, rfl, by omega, rfl⟩
  have G0 : w.grownBy w none := grown_refl _ _
  clear hs hsl hv hl hW hN hC hCl hTO hTs hn0 hn1 hL
  go_enter Try.func5, Try.ntmps5
  go_wp2_with fail
  refine (KT.out _ G0).mono ?_
  rintro e w41 ⟨t1, t2, t3, t4, rfl, h, hg41⟩
  obtain ⟨W41, HW41, hA41, Btt⟩ := alloc_namedX w41 (.cells #[.int .i64 T.start, .slice t1 T.reads.length t2, .slice t3 T.writes.length t4] 28)
  have hs41 := grown_trans hg41 hA41
  have HX : Hid (TxIs W41 (.agg #[.int .i64 T.start, .slice t1 T.reads.length t2, .slice t3 T.writes.length t4]) T) := h.grown hA41
  replace G0 : w.grownBy W41 none := grown_trans G0 hs41
  clear h
  go_upto_region 2 with fail
  rw [← HW41.out]
  obtain ⟨ttB, httB⟩ : ∃ ttB, ttB = w41.heap.size := ⟨_, rfl⟩
  rw [← httB] at Btt ⊢
  clear httB HW41 hs41 hA41 hg41
  clear KT
  obtain ⟨ttc0, ttc1, ttc2⟩ := trip_room (grown_refl _ none) Btt.out
  by_cases h0 : T.writes.length = 0
  · have i0 : ((T.writes.length : Int) == 0) = true := by simp; simpa using h0
    clear h0
    go_wp2_with fail
    refine (CK2.out _).mono ?_
    rintro e w50 ⟨rfl, hg50⟩
    go_wp2
    go_ret
    exact ⟨rfl, grown_trans G0 hg50⟩
  · have i0 : ((T.writes.length : Int) == 0) = false := by simp; simpa using h0
    have hw0 : 0 < T.writes.length := by omega
    clear h0
    by_cases h0 : T.reads.length = 0
    · have i1 : ((T.reads.length : Int) == 0) = true := by simp; simpa using h0
      clear h0
      go_wp2_with fail
      refine (CK2.out _).mono ?_
      rintro e w50 ⟨rfl, hg50⟩
      go_wp2
      go_ret
      exact ⟨rfl, grown_trans G0 hg50⟩
    · have i1 : ((T.reads.length : Int) == 0) = false := by simp; simpa using h0
      have hr0 : 0 < T.reads.length := by omega
      clear h0
      obtain ⟨Fb, Fo, Fhbo⟩ : ∃ b o, t3 = some ⟨b, o, none⟩ := by
        obtain ⟨b, o, e, _⟩ := HX.out.parts.2.2.at 0 hw0
        exact ⟨b, o, e⟩
      subst Fhbo
      obtain ⟨FWU, FHWU, FhAU, FBU⟩ := alloc_namedX W41 (.cells #[.int .i64 T.start, .slice t1 T.reads.length t2, .slice (some ⟨Fb, Fo, none⟩) T.writes.length t4] 28)
      go_upto_region 5 with fail
      rw [← FHWU.out]
      obtain ⟨aaB, FhbB⟩ : ∃ x, x = W41.heap.size := ⟨_, rfl⟩
      have FhbL : W41.heap.size ≤ aaB := by omega
      have FhbT : ttB ≠ aaB := by
        have := (Array.getElem?_eq_some_iff.1 Btt.out).1
        omega
      rw [← FhbB] at FBU ⊢
      clear FhbB FHWU
      have FHL : Hid (WritesIs W41 (.slice (some ⟨Fb, Fo, none⟩) T.writes.length t4) T.writes) := HX.out.parts.2.2
      have Fhgd := grown_drew (grown_refl FWU none)
      have FhgW := grown_trans FhAU Fhgd
      have FHTC : Hid (W41.cell? ⟨ttB, 2, none⟩ = some (.slice (some ⟨Fb, Fo, none⟩) T.writes.length t4)) := ttc2
      have FPK : Hid (∀ w' : World, Calls Try.prog 8 #[.int .i64 n, .int .i64 (T.writes.length : Int)] w' fun e w'' => ∃ k : Nat, e = .returned (.int .i64 (k : Int)) ∧ k < T.writes.length ∧ w'' = w') := fun w' => PK.out w' _ hw0 (by omega)
      clear ttc0 ttc1 ttc2
      go_region_held3 (fun w' => w'.cell? ⟨ttB, 2, none⟩ = some (.slice (some ⟨Fb, Fo, none⟩) T.writes.length t4) ∧ (∀ j, j < T.writes.length → w'.cell? ⟨Fb, Fo + j * 4, none⟩ = W41.cell? ⟨Fb, Fo + j * 4, none⟩) ∧ (∀ j, j < T.writes.length → w'.cell? ⟨Fb, Fo + j * 4 + 1, none⟩ = W41.cell? ⟨Fb, Fo + j * 4 + 1, none⟩) ∧ (∀ j, j < T.writes.length → w'.cell? ⟨Fb, Fo + j * 4 + 2, none⟩ = W41.cell? ⟨Fb, Fo + j * 4 + 2, none⟩) ∧ (∀ j, j < T.writes.length → w'.cell? ⟨Fb, Fo + j * 4 + 3, none⟩ = W41.cell? ⟨Fb, Fo + j * 4 + 3, none⟩))
        (exact held_w FHTC.out FHL.out (by first | with_reducible exact FhgW | with_reducible exact FhgW1 | with_reducible exact grown_alloc FhgW1 _ | with_reducible exact FhgW3 | exact grown_setNew FhgW3 _ FhbL _ _))
        (first
          | (go_at_call 8
             refine (FPK.out _).mono ?_
             rintro e Fw2 ⟨Fk, rfl, Fhk, Fhw2⟩
             rw [Fhw2]
             clear Fhw2
             have Fhki : (Fk : Int) < (T.writes.length : Int) := by omega
             obtain ⟨Fy1, Fy2, Fy3, Fy4, Fy5, Fy6, ⟨Fx1, Fx2, Fx3, Fx4⟩, Fs1, Fs2, Fs3⟩ := writes_cellsB FHL.out Fk Fhk
             have Fmem := getD_memW Fhk
             obtain ⟨Fp, Fhp⟩ : ∃ p, p = T.writes.getD Fk noPlc := ⟨_, rfl⟩
             rw [← Fhp] at Fx1 Fx2 Fx3 Fx4 Fs1 Fs2 Fs3 Fmem
             have FS1 : Hid (_) := Fs1
             have FS2 : Hid (_) := Fs2
             have FS3 : Hid (_) := Fs3
             clear Fs1 Fs2 Fs3 Fhp)
          | (refine step_append_wr0 (by rfl) _ _ (by rfl) (by rfl) W41 FhgW _ _ T.writes (by rfl) FHL.out hw0 (by omega) ?_
             intro Fv1 Fw1 Fho1 Fhg1
             obtain ⟨Fa1, Fc1, rfl⟩ := Fho1.shape
             have FHO1 : Hid (OwnV W41.heap.size W41.heap.size Fw1 (.slice Fa1 T.writes.length Fc1) T.writes) := Fho1
             have FhgU1 := grown_trans Fhgd Fhg1
             have FhgW1 := grown_trans FhAU FhgU1
             clear Fho1)
          | (refine step_append_wr1 (by rfl) _ _ (by rfl) W41 (grown_alloc FhgW1 _) (.slice Fa1 T.writes.length Fc1) T.writes (by rfl) (FHO1.out.grownNone (World.grownBy_alloc _ _ _)) _ _ _ Fp FS1.out FS2.out FS3.out Fw1.heap.size (heap_alloc_new Fw1 _) (by rfl) (by omega) ?_
             intro Fv3 Fw3 Fho3 Fhg3
             obtain ⟨Fa3, Fc3, rfl⟩ := Fho3.shape
             have FHO3 : Hid (OwnV W41.heap.size W41.heap.size Fw3 (.slice Fa3 (T.writes.length + 1) Fc3) (T.writes ++ [Fp])) := by have := Fho3; rw [List.length_append] at this; exact this
             have FhgW3 := grown_ownV (grown_alloc FhgW1 _) (FHO1.out.grownNone (World.grownBy_alloc _ _ _)) (Nat.le_refl _) Fhg3
             have FB3 : Hid (Fw3.heap[aaB]? = some (.cells #[.int .i64 T.start, .slice t1 T.reads.length t2, .slice (some ⟨Fb, Fo, none⟩) T.writes.length t4] 28)) := OwnV.block (FHO1.out.grownNone (World.grownBy_alloc _ _ _)) Fhg3 (pair_old (grown_alloc FhgU1 _) FBU.out) txnTW
             obtain ⟨⟨Fu0, Fu1, Fu2⟩, Fu3, Fu4, Fu5⟩ := trip_room2 FB3.out
             clear Fho3))
      obtain ⟨FWS, FhWS⟩ : ∃ WS, WS = Fw3.setCell ⟨aaB, 2, none⟩ (.slice Fa3 (T.writes.length + 1) Fc3) := ⟨_, rfl⟩
      have Baa : Hid (FWS.heap[aaB]? = some (.cells #[.int .i64 T.start, .slice t1 T.reads.length t2, .slice Fa3 (T.writes.length + 1) Fc3] 28)) := by show _ = _; rw [FhWS]; exact set_self FB3.out
      have FhgS : W41.grownBy FWS none := by rw [FhWS]; exact grown_setNew FhgW3 aaB FhbL _ _
      have FHN : Hid (WritesIs FWS (.slice Fa3 (T.writes.length + 1) Fc3) (T.writes ++ [Fp])) := by show WritesIs _ _ _; rw [FhWS]; exact (FHO3.out.setOther FB3.out txnT5 txnTW FhbL _).list
      have FHWS : Hid (FWS = Fw3.setCell ⟨aaB, 2, none⟩ (.slice Fa3 (T.writes.length + 1) Fc3)) := FhWS
      clear FhWS
      go_upto_region 6 with fail
      rw [← FHWS.out]
      have HTA : Hid (TxIs FWS (.agg #[.int .i64 T.start, .slice t1 T.reads.length t2, .slice Fa3 (T.writes.length + 1) Fc3]) ⟨T.start, T.reads, T.writes ++ [Fp]⟩) := ⟨_, _, rfl, HX.out.parts.2.1.grown FhgS, FHN.out⟩
      obtain ⟨TA, hTA⟩ : ∃ x : Tx, x = ⟨T.start, T.reads, T.writes ++ [Fp]⟩ := ⟨_, rfl⟩
      have ETA : Hid (FitsX TA ∧ txE TA = 3) := by show _ ∧ _; rw [hTA]; exact ⟨twice_fw HTO.out Fmem, twice_w HTO.out hTw Fmem⟩
      rw [← hTA] at HTA
      obtain ⟨Fnl, Fhnl⟩ : ∃ x : Nat, x = (T.writes.length + 1) := ⟨_, rfl⟩
      rw [← Fhnl] at Baa HTA
      replace G0 : w.grownBy FWS none := grown_trans G0 FhgS
      replace Btt : Hid (FWS.heap[ttB]? = some (.cells #[.int .i64 T.start, .slice t1 T.reads.length t2, .slice (some ⟨Fb, Fo, none⟩) T.writes.length t4] 28)) := pair_old FhgS Btt.out
      replace HX : Hid (TxIs FWS (.agg #[.int .i64 T.start, .slice t1 T.reads.length t2, .slice (some ⟨Fb, Fo, none⟩) T.writes.length t4]) T) := HX.out.grown FhgS
      clear FHWS FHO3 FHO1 FHN FB3 Fu0 Fu1 Fu2 Fu3 Fu4 Fu5 FHTC Fx1 Fx2 Fx3 Fx4 FS1 FS2 FS3 FBU FPK hTA Fhnl
      obtain ⟨Lb, Lo, Lhbo⟩ : ∃ b o, t1 = some ⟨b, o, none⟩ := by
        obtain ⟨b, o, e, _⟩ := HX.out.parts.2.1.at 0 hr0
        exact ⟨b, o, e⟩
      subst Lhbo
      obtain ⟨LWU, LHWU, LhAU, LBU⟩ := alloc_namedX FWS (.cells #[.int .i64 T.start, .slice (some ⟨Lb, Lo, none⟩) T.reads.length t2, .slice (some ⟨Fb, Fo, none⟩) T.writes.length t4] 28)
      obtain ⟨ttc0, ttc1, ttc2⟩ := trip_room (grown_refl _ none) Btt.out
      go_upto_region 7 with fail
      rw [← LHWU.out]
      obtain ⟨bbB, LhbB⟩ : ∃ x, x = FWS.heap.size := ⟨_, rfl⟩
      have LhbL : FWS.heap.size ≤ bbB := by omega
      have LhbT : ttB ≠ bbB := by
        have := (Array.getElem?_eq_some_iff.1 Btt.out).1
        omega
      rw [← LhbB] at LBU ⊢
      clear LhbB LHWU
      have LHL : Hid (ReadsIs FWS (.slice (some ⟨Lb, Lo, none⟩) T.reads.length t2) T.reads) := HX.out.parts.2.1
      have Lhgd := grown_drew (grown_refl LWU none)
      have LhgW := grown_trans LhAU Lhgd
      have LHTC : Hid (FWS.cell? ⟨ttB, 1, none⟩ = some (.slice (some ⟨Lb, Lo, none⟩) T.reads.length t2)) := ttc1
      have LPK : Hid (∀ w' : World, Calls Try.prog 8 #[.int .i64 n, .int .i64 (T.reads.length : Int)] w' fun e w'' => ∃ k : Nat, e = .returned (.int .i64 (k : Int)) ∧ k < T.reads.length ∧ w'' = w') := fun w' => PK.out w' _ hr0 (by omega)
      clear ttc0 ttc1 ttc2
      go_region_held3 (fun w' => w'.cell? ⟨ttB, 1, none⟩ = some (.slice (some ⟨Lb, Lo, none⟩) T.reads.length t2) ∧ (∀ j, j < T.reads.length → w'.cell? ⟨Lb, Lo + j * 4, none⟩ = FWS.cell? ⟨Lb, Lo + j * 4, none⟩) ∧ (∀ j, j < T.reads.length → w'.cell? ⟨Lb, Lo + j * 4 + 1, none⟩ = FWS.cell? ⟨Lb, Lo + j * 4 + 1, none⟩) ∧ (∀ j, j < T.reads.length → w'.cell? ⟨Lb, Lo + j * 4 + 2, none⟩ = FWS.cell? ⟨Lb, Lo + j * 4 + 2, none⟩) ∧ (∀ j, j < T.reads.length → w'.cell? ⟨Lb, Lo + j * 4 + 3, none⟩ = FWS.cell? ⟨Lb, Lo + j * 4 + 3, none⟩))
        (exact held_r LHTC.out LHL.out (by first | with_reducible exact LhgW | with_reducible exact LhgW1 | with_reducible exact grown_alloc LhgW1 _ | with_reducible exact LhgW3 | exact grown_setNew LhgW3 _ LhbL _ _))
        (first
          | (go_at_call 8
             refine (LPK.out _).mono ?_
             rintro e Lw2 ⟨Lk, rfl, Lhk, Lhw2⟩
             rw [Lhw2]
             clear Lhw2
             have Lhki : (Lk : Int) < (T.reads.length : Int) := by omega
             obtain ⟨Ly1, Ly2, Ly3, Ly4, Ly5, Ly6, ⟨Lx1, Lx2, Lx3, Lx4⟩, Ls1, Ls2, Ls3⟩ := reads_cellsB LHL.out Lk Lhk
             have Lmem := getD_memR Lhk
             obtain ⟨Lp, Lhp⟩ : ∃ p, p = T.reads.getD Lk noRd := ⟨_, rfl⟩
             rw [← Lhp] at Lx1 Lx2 Lx3 Lx4 Ls1 Ls2 Ls3 Lmem
             have LS1 : Hid (_) := Ls1
             have LS2 : Hid (_) := Ls2
             have LS3 : Hid (_) := Ls3
             clear Ls1 Ls2 Ls3 Lhp)
          | (refine step_append_rd0 (by rfl) _ _ (by rfl) (by rfl) FWS LhgW _ _ T.reads (by rfl) LHL.out hr0 (by omega) ?_
             intro Lv1 Lw1 Lho1 Lhg1
             obtain ⟨La1, Lc1, rfl⟩ := Lho1.shape
             have LHO1 : Hid (OwnR FWS.heap.size FWS.heap.size Lw1 (.slice La1 T.reads.length Lc1) T.reads) := Lho1
             have LhgU1 := grown_trans Lhgd Lhg1
             have LhgW1 := grown_trans LhAU LhgU1
             clear Lho1)
          | (refine step_append_rd1 (by rfl) _ _ (by rfl) FWS (grown_alloc LhgW1 _) (.slice La1 T.reads.length Lc1) T.reads (by rfl) (LHO1.out.grownNone (World.grownBy_alloc _ _ _)) _ _ _ Lp LS1.out LS2.out LS3.out Lw1.heap.size (heap_alloc_new Lw1 _) (by rfl) (by omega) ?_
             intro Lv3 Lw3 Lho3 Lhg3
             obtain ⟨La3, Lc3, rfl⟩ := Lho3.shape
             have LHO3 : Hid (OwnR FWS.heap.size FWS.heap.size Lw3 (.slice La3 (T.reads.length + 1) Lc3) (T.reads ++ [Lp])) := by have := Lho3; rw [List.length_append] at this; exact this
             have LhgW3 := grown_ownR (grown_alloc LhgW1 _) (LHO1.out.grownNone (World.grownBy_alloc _ _ _)) (Nat.le_refl _) Lhg3
             have LB3 : Hid (Lw3.heap[bbB]? = some (.cells #[.int .i64 T.start, .slice (some ⟨Lb, Lo, none⟩) T.reads.length t2, .slice (some ⟨Fb, Fo, none⟩) T.writes.length t4] 28)) := OwnR.block (LHO1.out.grownNone (World.grownBy_alloc _ _ _)) Lhg3 (pair_old (grown_alloc LhgU1 _) LBU.out) txnTR
             obtain ⟨⟨Lu0, Lu1, Lu2⟩, Lu3, Lu4, Lu5⟩ := trip_room2 LB3.out
             clear Lho3))
      obtain ⟨LWS, LhWS⟩ : ∃ WS, WS = Lw3.setCell ⟨bbB, 1, none⟩ (.slice La3 (T.reads.length + 1) Lc3) := ⟨_, rfl⟩
      have Bbb : Hid (LWS.heap[bbB]? = some (.cells #[.int .i64 T.start, .slice La3 (T.reads.length + 1) Lc3, .slice (some ⟨Fb, Fo, none⟩) T.writes.length t4] 28)) := by show _ = _; rw [LhWS]; exact set_self LB3.out
      have LhgS : FWS.grownBy LWS none := by rw [LhWS]; exact grown_setNew LhgW3 bbB LhbL _ _
      have LHN : Hid (ReadsIs LWS (.slice La3 (T.reads.length + 1) Lc3) (T.reads ++ [Lp])) := by show ReadsIs _ _ _; rw [LhWS]; exact (LHO3.out.setOther LB3.out txnT5 txnTR LhbL _).list
      have LHWS : Hid (LWS = Lw3.setCell ⟨bbB, 1, none⟩ (.slice La3 (T.reads.length + 1) Lc3)) := LhWS
      clear LhWS
      go_upto_region 8 with fail
      rw [← LHWS.out]
      have HTB : Hid (TxIs LWS (.agg #[.int .i64 T.start, .slice La3 (T.reads.length + 1) Lc3, .slice (some ⟨Fb, Fo, none⟩) T.writes.length t4]) ⟨T.start, T.reads ++ [Lp], T.writes⟩) := ⟨_, _, rfl, LHN.out, HX.out.parts.2.2.grown LhgS⟩
      obtain ⟨TB, hTB⟩ : ∃ x : Tx, x = ⟨T.start, T.reads ++ [Lp], T.writes⟩ := ⟨_, rfl⟩
      have ETB : Hid (FitsX TB ∧ txE TB = 3) := by show _ ∧ _; rw [hTB]; exact ⟨twice_fr HTO.out hTr Lmem, twice_r HTO.out hTr Lmem⟩
      rw [← hTB] at HTB
      obtain ⟨Lnl, Lhnl⟩ : ∃ x : Nat, x = (T.reads.length + 1) := ⟨_, rfl⟩
      rw [← Lhnl] at Bbb HTB
      replace G0 : w.grownBy LWS none := grown_trans G0 LhgS
      replace Btt : Hid (LWS.heap[ttB]? = some (.cells #[.int .i64 T.start, .slice (some ⟨Lb, Lo, none⟩) T.reads.length t2, .slice (some ⟨Fb, Fo, none⟩) T.writes.length t4] 28)) := pair_old LhgS Btt.out
      replace Baa : Hid (LWS.heap[aaB]? = some (.cells #[.int .i64 T.start, .slice (some ⟨Lb, Lo, none⟩) T.reads.length t2, .slice Fa3 Fnl Fc3] 28)) := pair_old LhgS Baa.out
      replace HX : Hid (TxIs LWS (.agg #[.int .i64 T.start, .slice (some ⟨Lb, Lo, none⟩) T.reads.length t2, .slice (some ⟨Fb, Fo, none⟩) T.writes.length t4]) T) := HX.out.grown LhgS
      replace HTA : Hid (TxIs LWS (.agg #[.int .i64 T.start, .slice (some ⟨Lb, Lo, none⟩) T.reads.length t2, .slice Fa3 Fnl Fc3]) TA) := HTA.out.grown LhgS
      clear LHWS LHO3 LHO1 LHN LB3 Lu0 Lu1 Lu2 Lu3 Lu4 Lu5 LHTC Lx1 Lx2 Lx3 Lx4 LS1 LS2 LS3 LBU LPK hTB Lhnl
      obtain ⟨W3, hW3⟩ : ∃ W3 : World, W3 = (LWS.alloc (.cells #[.int .u8 1] 5)).alloc (.cells #[.int .u8 1] 5) := ⟨_, rfl⟩
      obtain ⟨l1, l2, hg3⟩ := lits11 LWS W3 hW3
      have LK : Hid (Calls Try.prog 19 #[.slice none 0 0, .agg #[.int .i64 T.start, .slice (some ⟨Lb, Lo, none⟩) T.reads.length t2, .slice Fa3 Fnl Fc3], .slice (some ⟨LWS.heap.size, 0, none⟩) 1 1, .slice (some ⟨LWS.heap.size + 1, 0, none⟩) 1 1] W3 fun e w'' => ∃ c d x1 x2 x3, e = .returned (.tuple #[.agg #[.bool c, .slice x1 x2 x3], .bool d, .int .i64 3]) ∧ W3.grownBy w'' none) := LK3.out W3 _ TA _ _ (HTA.out.grown hg3) ETA.out.1 ETA.out.2 l1 l2
      have HW3 : Hid (W3 = (LWS.alloc (.cells #[.int .u8 1] 5)).alloc (.cells #[.int .u8 1] 5)) := hW3
      clear hW3 l1 l2 LK3 CK2 PK
      obtain ⟨aac0, aac1, aac2⟩ := trip_room (grown_refl _ none) Baa.out
      go_wp2_with fail
      rw [← HW3.out]
      refine LK.out.mono ?_
      rintro e w4 ⟨lc, ld, x1, x2, x3, rfl, hg4⟩
      obtain ⟨W5, HW5, hg5, Bff⟩ := alloc_namedX w4 (.cells #[.bool lc, .slice x1 x2 x3] 46)
      have hgx := grown_trans hg3 (grown_trans hg4 hg5)
      clear aac0 aac1 aac2
      go_upto_region 9 with fail
      rw [← HW5.out]
      clear HW5 HW3 LK
      replace G0 : w.grownBy W5 none := grown_trans G0 hgx
      replace Btt : Hid (W5.heap[ttB]? = some (.cells #[.int .i64 T.start, .slice (some ⟨Lb, Lo, none⟩) T.reads.length t2, .slice (some ⟨Fb, Fo, none⟩) T.writes.length t4] 28)) := pair_old hgx Btt.out
      replace Baa : Hid (W5.heap[aaB]? = some (.cells #[.int .i64 T.start, .slice (some ⟨Lb, Lo, none⟩) T.reads.length t2, .slice Fa3 Fnl Fc3] 28)) := pair_old hgx Baa.out
      replace Bbb : Hid (W5.heap[bbB]? = some (.cells #[.int .i64 T.start, .slice La3 Lnl Lc3, .slice (some ⟨Fb, Fo, none⟩) T.writes.length t4] 28)) := pair_old hgx Bbb.out
      replace HX : Hid (TxIs W5 (.agg #[.int .i64 T.start, .slice (some ⟨Lb, Lo, none⟩) T.reads.length t2, .slice (some ⟨Fb, Fo, none⟩) T.writes.length t4]) T) := HX.out.grown hgx
      replace HTA : Hid (TxIs W5 (.agg #[.int .i64 T.start, .slice (some ⟨Lb, Lo, none⟩) T.reads.length t2, .slice Fa3 Fnl Fc3]) TA) := HTA.out.grown hgx
      replace HTB : Hid (TxIs W5 (.agg #[.int .i64 T.start, .slice La3 Lnl Lc3, .slice (some ⟨Fb, Fo, none⟩) T.writes.length t4]) TB) := HTB.out.grown hgx
      clear hgx hg3 hg4 hg5 Bff
      obtain ⟨bbc0, bbc1, bbc2⟩ := trip_room (grown_refl _ none) Bbb.out
      go_wp2_with fail
      refine (CL3.out _ _ TB HTB.out ETB.out.1 ETB.out.2).mono ?_
      rintro e w61 ⟨lcc, rfl, hg61⟩
      clear bbc0 bbc1 bbc2
      replace G0 : w.grownBy w61 none := grown_trans G0 hg61
      replace Btt : Hid (w61.heap[ttB]? = some (.cells #[.int .i64 T.start, .slice (some ⟨Lb, Lo, none⟩) T.reads.length t2, .slice (some ⟨Fb, Fo, none⟩) T.writes.length t4] 28)) := pair_old hg61 Btt.out
      replace Baa : Hid (w61.heap[aaB]? = some (.cells #[.int .i64 T.start, .slice (some ⟨Lb, Lo, none⟩) T.reads.length t2, .slice Fa3 Fnl Fc3] 28)) := pair_old hg61 Baa.out
      replace Bbb : Hid (w61.heap[bbB]? = some (.cells #[.int .i64 T.start, .slice La3 Lnl Lc3, .slice (some ⟨Fb, Fo, none⟩) T.writes.length t4] 28)) := pair_old hg61 Bbb.out
      replace HX : Hid (TxIs w61 (.agg #[.int .i64 T.start, .slice (some ⟨Lb, Lo, none⟩) T.reads.length t2, .slice (some ⟨Fb, Fo, none⟩) T.writes.length t4]) T) := HX.out.grown hg61
      replace HTA : Hid (TxIs w61 (.agg #[.int .i64 T.start, .slice (some ⟨Lb, Lo, none⟩) T.reads.length t2, .slice Fa3 Fnl Fc3]) TA) := HTA.out.grown hg61
      replace HTB : Hid (TxIs w61 (.agg #[.int .i64 T.start, .slice La3 Lnl Lc3, .slice (some ⟨Fb, Fo, none⟩) T.writes.length t4]) TB) := HTB.out.grown hg61
      clear hg61
      obtain ⟨aac0, aac1, aac2⟩ := trip_room (grown_refl _ none) Baa.out
      go_wp2_with fail
      refine (CK3.out _ _ TA HTA.out ETA.out.1 ETA.out.2).mono ?_
      rintro e w62 ⟨rfl, hg62⟩
      clear aac0 aac1 aac2
      replace G0 : w.grownBy w62 none := grown_trans G0 hg62
      replace Btt : Hid (w62.heap[ttB]? = some (.cells #[.int .i64 T.start, .slice (some ⟨Lb, Lo, none⟩) T.reads.length t2, .slice (some ⟨Fb, Fo, none⟩) T.writes.length t4] 28)) := pair_old hg62 Btt.out
      replace Baa : Hid (w62.heap[aaB]? = some (.cells #[.int .i64 T.start, .slice (some ⟨Lb, Lo, none⟩) T.reads.length t2, .slice Fa3 Fnl Fc3] 28)) := pair_old hg62 Baa.out
      replace Bbb : Hid (w62.heap[bbB]? = some (.cells #[.int .i64 T.start, .slice La3 Lnl Lc3, .slice (some ⟨Fb, Fo, none⟩) T.writes.length t4] 28)) := pair_old hg62 Bbb.out
      replace HX : Hid (TxIs w62 (.agg #[.int .i64 T.start, .slice (some ⟨Lb, Lo, none⟩) T.reads.length t2, .slice (some ⟨Fb, Fo, none⟩) T.writes.length t4]) T) := HX.out.grown hg62
      replace HTA : Hid (TxIs w62 (.agg #[.int .i64 T.start, .slice (some ⟨Lb, Lo, none⟩) T.reads.length t2, .slice Fa3 Fnl Fc3]) TA) := HTA.out.grown hg62
      replace HTB : Hid (TxIs w62 (.agg #[.int .i64 T.start, .slice La3 Lnl Lc3, .slice (some ⟨Fb, Fo, none⟩) T.writes.length t4]) TB) := HTB.out.grown hg62
      clear hg62
      obtain ⟨bbc0, bbc1, bbc2⟩ := trip_room (grown_refl _ none) Bbb.out
      go_wp2_with fail
      refine (CK3.out _ _ TB HTB.out ETB.out.1 ETB.out.2).mono ?_
      rintro e w63 ⟨rfl, hg63⟩
      clear bbc0 bbc1 bbc2
      replace G0 : w.grownBy w63 none := grown_trans G0 hg63
      replace Btt : Hid (w63.heap[ttB]? = some (.cells #[.int .i64 T.start, .slice (some ⟨Lb, Lo, none⟩) T.reads.length t2, .slice (some ⟨Fb, Fo, none⟩) T.writes.length t4] 28)) := pair_old hg63 Btt.out
      replace Baa : Hid (w63.heap[aaB]? = some (.cells #[.int .i64 T.start, .slice (some ⟨Lb, Lo, none⟩) T.reads.length t2, .slice Fa3 Fnl Fc3] 28)) := pair_old hg63 Baa.out
      replace Bbb : Hid (w63.heap[bbB]? = some (.cells #[.int .i64 T.start, .slice La3 Lnl Lc3, .slice (some ⟨Fb, Fo, none⟩) T.writes.length t4] 28)) := pair_old hg63 Bbb.out
      replace HX : Hid (TxIs w63 (.agg #[.int .i64 T.start, .slice (some ⟨Lb, Lo, none⟩) T.reads.length t2, .slice (some ⟨Fb, Fo, none⟩) T.writes.length t4]) T) := HX.out.grown hg63
      replace HTA : Hid (TxIs w63 (.agg #[.int .i64 T.start, .slice (some ⟨Lb, Lo, none⟩) T.reads.length t2, .slice Fa3 Fnl Fc3]) TA) := HTA.out.grown hg63
      replace HTB : Hid (TxIs w63 (.agg #[.int .i64 T.start, .slice La3 Lnl Lc3, .slice (some ⟨Fb, Fo, none⟩) T.writes.length t4]) TB) := HTB.out.grown hg63
      clear hg63
      go_wp2
      go_ret
      exact ⟨rfl, G0⟩
end Go.Proofs.Ytpmfbfflacbmjac
