/- The laws Shapes and Places. -/
import Derived.Test.YtpbfbejckhbijaaDoorFiI
import Derived.Test.YtpbfbejckhbijaaDoorFiAz
import Derived.Test.YtpbfbejckhbijaaDoorMvKb
import Derived.Test.YtpbfbejckhbijaaDoorMvP
namespace Go.Proofs.YtpbfbejckhbijaaDoor
open Go.RowKit

theorem ioV_len (A : Ar) : (ioV A).z.length ≤ 400 := by
  unfold ioV orNo
  split
  · rename_i h
    exact (ck_good (ioV_ck h)).len4
  · exact Nat.zero_le _
theorem lkV_len (A B : Ar) : (lkV A B).z.length ≤ 400 := by
  unfold lkV orNo
  split
  · rename_i h
    exact (ck_good (lk_ck h)).len4
  · exact Nat.zero_le _
theorem mbV_len (A B : Ar) : (mbV A B).z.length ≤ 400 := by
  unfold mbV orNo
  split
  · rename_i h
    exact (ck_good (mb_ck h)).len4
  · exact Nat.zero_le _
theorem KVar.two8 {w : World} {A B : Ar} {v u : Value} (hw : Ru.Lay w) (hv : RdI w.heap.size w v A.z) (hu : RdI w.heap.size w u B.z) (hn : Ru.NilC v) (hn' : Ru.NilC u) :
    KVar w [⟨w.heap.size + 1, B, u⟩, ⟨w.heap.size, A, v⟩] ((w.alloc (.cells #[.int .i64 A.k, .int .i64 A.r, .int .i64 A.a, .int .i64 A.b, v] 25)).alloc (.cells #[.int .i64 B.k, .int .i64 B.r, .int .i64 B.a, .int .i64 B.b, u] 25)) := by
  have h := ((KVar.start w hw).arg A hv hn).arg B hu hn'
  have e : (w.alloc (.cells #[.int .i64 A.k, .int .i64 A.r, .int .i64 A.a, .int .i64 A.b, v] 25)).heap.size = w.heap.size + 1 := by simp
  rw [e] at h
  exact h
end Go.Proofs.YtpbfbejckhbijaaDoor
