/- EncodeFrame, program and specification. Condition: the body has up to 2^26 bytes. -/
import Derived.Test.YtebbnopconbnlaaFb2
import Derived.Test.YtebbnopconbnlaaFb3
import Derived.Test.YtebbnopconbnlaaStp
namespace Go.Proofs.Ytebbnopconbnlaa.fbx
open Go.RowKit sl harn rng frm crcs
set_option linter.unusedVariables false
theorem no_bytes {w w' : World} {zs : List Int} (h : zs = []) (hb : Below w.heap.size w w') : SlPost 5 .u8 w zs (.returned (.slice (some ⟨w'.heap.size, 0, none⟩) 0 0)) (w'.alloc (.cells #[] 5)) := by
  subst h
  exact ⟨_, _, _, rfl, (Ow.empty 5 .u8 w').up.down hb.size, hb.alloc hb.size _⟩
theorem nums_wf {x : Fm} (h : Vf x) : Wf .i64 (nums x) := Wf.of_i64 fun z hz => by have := nums_good h z hz; omega

end Go.Proofs.Ytebbnopconbnlaa.fbx
