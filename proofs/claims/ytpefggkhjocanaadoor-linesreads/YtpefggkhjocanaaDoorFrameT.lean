/-
  What the rows' lists say of package-level variables; a world for the witness.
-/
import Derived.Test.YtpefggkhjocanaaDoorCards
import Derived.Test.YtpefggkhjocanaaDoorTie
import Derived.Test.YtpefggkhjocanaaDoorFrameB
import Derived.Test.YtpefggkhjocanaaDoorLnTab
import Derived.Shelf.Vars
import Derived.ChangeMaps5
import Derived.Stop.LaidErr
import Derived.Lib.LaidTab
namespace Go.Proofs.YtpefggkhjocanaaDoor
open Go.ChangeShapes Go.WideShapes Go.ChangeAt Go.RowKit
theorem gW : Tryd.prog.globalNamed "canopy/lines.words" = some 0 := by kernel_rfl
theorem gWt : (Tryd.prog.globals[0]?).map (·.type) = some 68 := by kernel_rfl
theorem gP : Tryd.prog.globalNamed "internal/strconv.uint64pow10" = some 2 := by kernel_rfl
theorem gPt : (Tryd.prog.globals[2]?).map (·.type) = some 99 := by kernel_rfl
theorem gS : Tryd.prog.globalNamed "strconv.ErrSyntax" = some 3 := by kernel_rfl
theorem gSt : (Tryd.prog.globals[3]?).map (·.type) = some 65 := by kernel_rfl
theorem gR : Tryd.prog.globalNamed "strconv.ErrRange" = some 4 := by kernel_rfl
theorem gRt : (Tryd.prog.globals[4]?).map (·.type) = some 65 := by kernel_rfl
theorem cW : Tryd.prog.cellsOf 68 = 5 := by kernel_rfl
theorem c9 : Tryd.prog.cellsOf 9 = 1 := by kernel_rfl
theorem cP : Tryd.prog.cellsOf 99 = 20 := by kernel_rfl
theorem cU : Tryd.prog.cellsOf 89 = 1 := by kernel_rfl
theorem cE : Tryd.prog.cellsOf 124 = 1 := by kernel_rfl
theorem starE : "*" ++ "errors.errorString" = "*errors.errorString" := by decide
theorem rowE (u : TypeId) (h : Tryd.prog.typeName? 3 u = some "*errors.errorString") : u = 122 :=
  typeName_ptr_named (nm := "errors.errorString") (by rw [starE]; kernel_rfl) (by kernel_rfl) (by decide) u (by rw [starE]; exact h)
theorem pow_tab {H : Type} : (Rows.laid_internal_strconv_uint64pow10 : DataW H) = Lib.tabData .u64 Lib.pow10Tab := rfl
/-- An array of texts that reads so holds them, cell for cell. -/
theorem cells_of_texts {H : Type} {enc : TypeId × Value → H} {P : Program} {w : World} {base : Nat} {sp : Nat → Bool} {held : Bool} {fuel : Nat} {t e : TypeId} {n : Nat} {cs : List Value} {zs : List (List UInt8)} {p : List MemPlace}
    (ht : P.underlying t = some (.array n e)) (he : P.underlying e = some .string) (hce : P.cellsOf e = 1) (hct : P.cellsOf t = n)
    (h : DataW.trod enc P w base sp held fuel t cs = some (.agg (zs.map fun z => .lit (.string z)), p)) (i : Nat) (hi : i < n) : cs[i]? = some (.string (textOf (zs.getD i []))) := by
  cases fuel with
  | zero => simp [DataW.trod] at h
  | succ fuel =>
    simp only [DataW.trod, ht, hce, hct, Nat.mul_one] at h
    split at h
    · obtain ⟨xs, hm, hx⟩ := Option.map_eq_some_iff.1 h
      have hxs : xs.map (·.1) = zs.map fun z => (DataW.lit (.string z) : DataW H) := by
        have := congrArg Prod.fst hx
        simpa using this
      obtain ⟨b, hb, hf⟩ := Lib.mapM_at hm i i (by simp [hi])
      obtain ⟨s, hc, rfl, _⟩ := DataW.trod_string he hf
      have h1 : cs[i]? = some (.string s) := by
        have := congrArg (·[0]?) hc
        simpa [List.getElem?_take, List.getElem?_drop] using this
      have h2 : (xs.map (·.1))[i]? = some (DataW.lit (.string s.data.toList) : DataW H) := by simp [hb]
      rw [hxs] at h2
      simp only [List.getElem?_map, Option.map_eq_some_iff, DataW.lit.injEq, Lit.string.injEq] at h2
      obtain ⟨z, hz, e⟩ := h2
      rw [h1, List.getD_eq_getElem?_getD, hz, Option.getD_some, e]
      exact congrArg (fun x => some (Value.string x)) (text_tl s).symm
    · cases h
def wordsD : List (List UInt8) := [[], wAsk, wSync, wCrash, wStart]
theorem words_is (i : Nat) (h : i < 5) : wordsD.getD i [] = wordN i := (by decide : ∀ i : Fin 5, wordsD.getD i.1 [] = wordN i.1) ⟨i, h⟩
theorem words_of {W : World} {r : List (String × DataW Unit)} (h : laidMet Tryd.prog (("canopy/lines.words", .agg (wordsD.map fun z => .lit (.string z))) :: r) W) (i : Nat) (hi : i < 5) : W.cell? ⟨0, i, none⟩ = some (.string (textOf (wordN i))) := by
  obtain ⟨ps, ⟨g', t', cs, fuel, p, q, hg', ht', hvar, hd, _, _⟩, _⟩ := h
  obtain rfl := Option.some.inj (gW.symm.trans hg')
  obtain rfl := Option.some.inj (gWt.symm.trans ht')
  have h1 := World.var?_cell gW hvar i
  rw [h1, ← words_is i hi, ← cells_of_texts Tryd.underlying68 Tryd.underlying9 c9 cW hd i hi]
  simp
/-- What LinesShows' list gives. -/
theorem show_tabs {W : World} (h : laidMet Tryd.prog Rows.linesShowsRow.laid W) : WrdT W :=
  ⟨words_of h.tail.tail.tail, Lib.tabIs_of_head gP gPt Tryd.underlying99 Tryd.underlying89 cU cP h.tail.tail⟩
def laidR : List (String × DataW Unit) := [("math/bits.deBruijn32tab", Rows.laid_math_bits_deBruijn32tab), ("math/bits.deBruijn64tab", Rows.laid_math_bits_deBruijn64tab), ("internal/strconv.uint64pow10", Rows.laid_internal_strconv_uint64pow10), ("strconv.ErrRange", Rows.laid_strconv_ErrRange), ("strconv.ErrSyntax", Rows.laid_strconv_ErrSyntax), ("canopy/lines.words", Rows.laid_canopy_lines_words)]
theorem most_of {W : World} (h : W.ShapedOpen Tryd.prog) : ∃ m, W.cell? ⟨1, 0, none⟩ = some (.int .i64 m) :=
  cell_of_shapedOpen_int (zero := #[.int .i64 0]) (t := 3) h (of_decide_eq_true (by kernel_rfl)) (by kernel_rfl) rfl (by kernel_rfl) (by kernel_rfl) Tryd.underlying3
/-- What the other rows' lists give. -/
theorem read_tabs {W : World} (h : laidMet Tryd.prog laidR W) (hS : W.ShapedOpen Tryd.prog) : LnT W := by
  refine ⟨⟨words_of h.tail.tail.tail.tail.tail, Lib.tabIs_of_head gP gPt Tryd.underlying99 Tryd.underlying89 cU cP h.tail.tail⟩, most_of hS, ?_, ?_⟩
  · obtain ⟨a, s, hv, _⟩ := laid_sentinel h.tail.tail.tail.tail gS gSt Tryd.underlying65 rowE Tryd.underlying122 Tryd.underlying124 rfl rfl Tryd.underlying9 cE c9
    exact ⟨_, _, hv⟩
  · obtain ⟨a, s, hv, _⟩ := laid_sentinel h.tail.tail.tail gR gRt Tryd.underlying65 rowE Tryd.underlying122 Tryd.underlying124 rfl rfl Tryd.underlying9 cE c9
    exact ⟨_, _, hv⟩
def layTab (cs : Array Value) : Obj → Obj
  | .cells _ t frozen => .cells cs t frozen
  | o => o
def tab32 : List Int := [0, 1, 28, 2, 29, 14, 24, 3, 30, 22, 20, 15, 25, 17, 4, 8, 31, 27, 13, 23, 21, 19, 16, 7, 26, 12, 18, 6, 11, 5, 10, 9]
def tab64 : List Int := [0, 1, 56, 2, 57, 49, 28, 3, 61, 58, 42, 50, 38, 29, 17, 4, 62, 47, 59, 36, 45, 43, 51, 22, 53, 39, 33, 30, 24, 18, 12, 5, 63, 55, 48, 27, 60, 41, 37, 16, 46, 35, 44, 21, 52, 32, 23, 11, 54, 26, 40, 15, 34, 20, 31, 10, 25, 14, 19, 9, 13, 8, 7, 6]
def tab10 : List Int := [1, 10, 100, 1000, 10000, 100000, 1000000, 10000000, 100000000, 1000000000, 10000000000, 100000000000, 1000000000000, 10000000000000, 100000000000000, 1000000000000000, 10000000000000000, 100000000000000000, 1000000000000000000, 10000000000000000000]
/-- A world for the witness: each variable as its initialiser lays it. -/
def laidWorld (W : World) : World :=
  { W with heap := (((((((W.heap.modify 5 (layTab (tab32.map fun z => Value.int .u8 z).toArray)).modify 6 (layTab (tab64.map fun z => Value.int .u8 z).toArray)).modify 2 (layTab (tab10.map fun z => Value.int .u64 z).toArray)).modify 0 (layTab #[.string ⟨#[]⟩, .string ⟨#[97, 115, 107]⟩, .string ⟨#[115, 121, 110, 99]⟩, .string ⟨#[99, 114, 97, 115, 104]⟩, .string ⟨#[115, 116, 97, 114, 116]⟩])).modify 3 (layTab #[.iface 122 (.pointer (some ⟨W.heap.size, 0, none⟩))])).modify 4 (layTab #[.iface 122 (.pointer (some ⟨W.heap.size + 1, 0, none⟩))])).push (.cells #[.string ⟨#[105, 110, 118, 97, 108, 105, 100, 32, 115, 121, 110, 116, 97, 120]⟩] 124)).push (.cells #[.string ⟨#[118, 97, 108, 117, 101, 32, 111, 117, 116, 32, 111, 102, 32, 114, 97, 110, 103, 101]⟩] 124) }
end Go.Proofs.YtpefggkhjocanaaDoor
