/- What the laws of chapter 8 need of the program's functions on tiles: proved. -/
import Derived.Test.YtihohmmfgamecaaTilX
import Derived.Test.YtihohmmfgamecaaTilL
import Derived.Test.YtihohmmfgamecaaTilV
import Derived.Test.YtihohmmfgamecaaTilW
import Derived.Test.YtihohmmfgamecaaTilZ
import Derived.Test.YtihohmmfgamecaaPlo
namespace Go.Proofs.Ytihohmmfgamecaa

theorem tilOk : TilOk := ⟨fun px w hp => im_valid px hp w, fun px a d w hp => im_flip px a d hp w, fun px w hp => im_turn px hp w, fun px w hp => im_used px hp w, fun px w hp => im_bytes px hp w, fun A n c xs fa w ha hn hnc => im_read A n c xs fa w ha hn hnc⟩
end Go.Proofs.Ytihohmmfgamecaa
