/-
  DERIVED: THE SHELF's CONTRACTS AT THIS DUMP, IN PLAIN WORDS (tools/lay-plain.mjs out of 'YtiofdlkdpmomlaaLayL.lean', which tools/lay-shelf.mjs wrote): THE SAME DECLARATIONS UNDER THE SAME NAMES: 'import', 'namespace', 'open', 'def', 'theorem' AND NOTHING ELSE: no command of the shelf's: FOR A HAND-IN. Each laying: the table of numbers ('.._ren') and one theorem, a field a fact of the dump's own or the kernel's comparison; each contract: ONE APPLICATION.
-/
import Derived.Shelf.Bytes.SlSmallAll
import Derived.Shelf.SlicesE.IndexFunc
import Derived.Shelf.Strings.FieldsFuncAny
import Derived.Shelf.Pu.Clone
import Derived.Test.YtiofdlkdpmomlaaProg
namespace Go.Proofs
open Go.Shelf
def Ytiofdlkdpmomlaa.tsL_ren : Go.Shelf.Ren := ⟨fun | 140 => 22 | 117 => 25 | 115 => 28 | n => n, fun | 37 => 22 | 4 => 4 | 3 => 3 | 9 => 9 | 5 => 5 | n => n, fun | n => n⟩
theorem Ytiofdlkdpmomlaa.tsL : Go.Proofs.Lays.nb140 Try.prog Ytiofdlkdpmomlaa.tsL_ren := {
  mixed := by kernel_rfl
  f115 := Try.func28.trans (congrArg some (by kernel_rfl))
  f117 := Try.func25.trans (congrArg some (by kernel_rfl))
  f140 := Try.func22.trans (congrArg some (by kernel_rfl))
  t3 := Try.underlying3
  a3 := Try.isAgg3
  z3 := Try.sizeOf3
  v3 := Try.zeroValue3
  t4 := Try.underlying4
  a4 := Try.isAgg4
  z4 := Try.sizeOf4
  v4 := Try.zeroValue4
  t9 := Try.underlying9
  a9 := Try.isAgg9
  z9 := Try.sizeOf9
  v9 := Try.zeroValue9
  t37 := Try.underlying22
  a37 := Try.isAgg22
  z37 := Try.sizeOf22
  v37 := Try.zeroValue22
  t5 := Try.underlying5
  a5 := Try.isAgg5
  z5 := Try.sizeOf5
  v5 := Try.zeroValue5 }
def Ytiofdlkdpmomlaa.cfL_ren : Go.Shelf.Ren := ⟨fun | 8 => 26 | 6 => 29 | n => n, fun | 22 => 22 | 23 => 5 | 25 => 61 | 4 => 4 | 3 => 3 | 0 => 0 | n => n, fun | n => n⟩
theorem Ytiofdlkdpmomlaa.cfL : Go.Proofs.SlLaysH.n8 Try.prog Ytiofdlkdpmomlaa.cfL_ren := {
  mixed := by kernel_rfl
  f6 := ⟨Try.f29.name, by decide, Try.func29.trans (congrArg some (by kernel_rfl))⟩
  f8 := ⟨Try.f26.name, by decide, Try.func26.trans (congrArg some (by kernel_rfl))⟩
  t0 := Try.underlying0
  a0 := Try.isAgg0
  z0 := Try.sizeOf0
  v0 := Try.zeroValue0
  t3 := Try.underlying3
  a3 := Try.isAgg3
  z3 := Try.sizeOf3
  v3 := Try.zeroValue3
  t4 := Try.underlying4
  a4 := Try.isAgg4
  z4 := Try.sizeOf4
  v4 := Try.zeroValue4
  t22 := Try.underlying22
  a22 := Try.isAgg22
  z22 := Try.sizeOf22
  v22 := Try.zeroValue22
  a23 := Try.isAgg5
  z23 := Try.sizeOf5
  t25 := Try.underlying61
  a25 := Try.isAgg61
  z25 := Try.sizeOf61
  v25 := Try.zeroValue61 }
def Ytiofdlkdpmomlaa.ffL_ren : Go.Shelf.Ren := ⟨fun | 229 => 19 | n => n, fun | 9 => 9 | 40 => 53 | 31 => 27 | 152 => 56 | 3 => 3 | 0 => 0 | 4 => 4 | 21 => 21 | 154 => 58 | n => n, fun | n => n⟩
theorem Ytiofdlkdpmomlaa.ffL : Go.Proofs.Lays.n229 Try.prog Ytiofdlkdpmomlaa.ffL_ren := {
  mixed := by kernel_rfl
  f229 := Try.func19.trans (congrArg some (by kernel_rfl))
  t0 := Try.underlying0
  a0 := Try.isAgg0
  z0 := Try.sizeOf0
  v0 := Try.zeroValue0
  t3 := Try.underlying3
  a3 := Try.isAgg3
  z3 := Try.sizeOf3
  v3 := Try.zeroValue3
  t4 := Try.underlying4
  a4 := Try.isAgg4
  z4 := Try.sizeOf4
  v4 := Try.zeroValue4
  t9 := Try.underlying9
  a9 := Try.isAgg9
  z9 := Try.sizeOf9
  v9 := Try.zeroValue9
  t21 := Try.underlying21
  a21 := Try.isAgg21
  z21 := Try.sizeOf21
  v21 := Try.zeroValue21
  t31 := Try.underlying27
  a31 := Try.isAgg27
  z31 := Try.sizeOf27
  v31 := Try.zeroValue27
  t40 := Try.underlying53
  a40 := Try.isAgg53
  z40 := Try.sizeOf53
  v40 := Try.zeroValue53
  t152 := Try.underlying56
  a152 := Try.isAgg56
  z152 := Try.sizeOf56
  v152 := Try.zeroValue56
  t154 := Try.underlying58
  a154 := Try.isAgg58
  z154 := Try.sizeOf58
  v154 := Try.zeroValue58 }
def Ytiofdlkdpmomlaa.clL_ren : Go.Shelf.Ren := ⟨fun | 25 => 24 | n => n, fun | 9 => 9 | 3 => 3 | 4 => 4 | 37 => 22 | 0 => 0 | 47 => 62 | 5 => 5 | n => n, fun | n => n⟩
theorem Ytiofdlkdpmomlaa.clL : Go.Proofs.LaysPu.n25 Try.prog Ytiofdlkdpmomlaa.clL_ren := {
  mixed := by kernel_rfl
  f25 := Try.func24.trans (congrArg some (by kernel_rfl))
  t0 := Try.underlying0
  a0 := Try.isAgg0
  z0 := Try.sizeOf0
  v0 := Try.zeroValue0
  i0 := by kernel_rfl
  t3 := Try.underlying3
  a3 := Try.isAgg3
  z3 := Try.sizeOf3
  v3 := Try.zeroValue3
  i3 := by kernel_rfl
  t4 := Try.underlying4
  a4 := Try.isAgg4
  z4 := Try.sizeOf4
  v4 := Try.zeroValue4
  i4 := by kernel_rfl
  t5 := Try.underlying5
  a5 := Try.isAgg5
  z5 := Try.sizeOf5
  v5 := Try.zeroValue5
  i5 := by kernel_rfl
  t9 := Try.underlying9
  a9 := Try.isAgg9
  z9 := Try.sizeOf9
  v9 := Try.zeroValue9
  i9 := by kernel_rfl
  t37 := Try.underlying22
  a37 := Try.isAgg22
  z37 := Try.sizeOf22
  v37 := Try.zeroValue22
  i37 := by kernel_rfl
  t47 := Try.underlying62
  a47 := Try.isAgg62
  z47 := Try.sizeOf62
  v47 := Try.zeroValue62
  i47 := by kernel_rfl }
end Go.Proofs
