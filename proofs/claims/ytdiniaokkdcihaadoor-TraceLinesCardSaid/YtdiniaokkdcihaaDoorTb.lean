/- The table of powers of ten, out of the row's condition. -/
import Derived.Test.YtdiniaokkdcihaaDoorRows
import Derived.Test.YtdiniaokkdcihaaDoorTx1
import Derived.Lib.LaidU8
import Derived.Lay
import Derived.LaidMore
namespace Go.Proofs.YtdiniaokkdcihaaDoor
set_option linter.unusedVariables false
set_option linter.unusedSimpArgs false
set_option maxRecDepth 100000
open Go.RowKit Fg Reg

theorem tb_laid {l : List (String × DataW Unit)} {W : World} (hL : laidMetH Tryd.prog l W) (hp : l.all (fun x => x.2.handleName?.isNone) = true) (hm : ("internal/strconv.uint64pow10", Rows.laid_internal_strconv_uint64pow10) ∈ l) : TB W := by
  rw [MakeChecks.laidMetH_plain _ _ _ hp] at hL
  obtain ⟨g, t, cs, fuel, p, hg, ht, hv, hd⟩ := Lib.laidMet.reads hL hm
  obtain rfl := Option.some.inj (tb_glob.symm.trans hg)
  have hty : (Tryd.prog.globals[0]?).map (·.type) = some 197 := by kernel_rfl
  obtain rfl := Option.some.inj (hty.symm.trans ht)
  have he : (Rows.laid_internal_strconv_uint64pow10 : DataW Unit) = Lib.tabData .u64 Lib.pow10Tab := by kernel_rfl
  rw [he] at hd
  unfold TB Lib.TabIs
  rw [hv, ← Lib.cells_of_tab Tryd.underlying197 Tryd.underlying24 (by kernel_rfl) (by kernel_rfl) hd]
end Go.Proofs.YtdiniaokkdcihaaDoor
