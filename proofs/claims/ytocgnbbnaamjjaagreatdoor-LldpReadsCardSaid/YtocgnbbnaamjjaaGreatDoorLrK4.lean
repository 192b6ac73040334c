/- Texts one behind the other. DERIVED: THE SHELF's CONTRACTS AT THIS DUMP, IN PLAIN WORDS (tools/lay-plain.mjs out of 'TryzShelf.lean', which tools/lay-shelf.mjs wrote): THE SAME DECLARATIONS UNDER THE SAME NAMES: 'import', 'namespace', 'open', 'def', 'theorem' AND NOTHING ELSE: no command of the shelf's: FOR A HAND-IN. Each laying: the table of numbers ('.._ren') and one theorem, a field a fact of the dump's own or the kernel's comparison; each contract: ONE APPLICATION. strings.Builder at this program: its check, and WriteString. strings.Builder: what a text written leaves as it was. A Builder elsewhere is as it was. strings.Builder: Grow at one that is new; strings.Join with nothing between. strings.Join of six texts, nothing between them. wire.Must of a number that fits. lldp.nameText, lldp.manageText. Records as values: cells, ==, rows of one's own. lldp.records: its function add. -/
import Derived.Test.YtocgnbbnaamjjaaGreatDoorLrK1
import Derived.Test.YtocgnbbnaamjjaaGreatDoorLrK2
import Derived.Shelf.Strings.Trim
import Derived.Shelf.Small.Utf8
import Derived.Shelf.Small.Strs
import Derived.Shelf.Strings.Search1
import Derived.Shelf.Strings.Runes
import Derived.Shelf.Strings.AsciiSet
import Derived.Shelf.Unicode.DecodeSlow
import Derived.Test.YtocgnbbnaamjjaaGreatDoorProg
import Derived.WalkKit
import Derived.Below
import Derived.Lib.Hide
import Derived.OrdersHeld
import Derived.WalkSpells
import Derived.WalkLawsBesides
import Derived.Shelf.Strings.Builder1
import Derived.Shelf.Strings.Builder2
import Derived.Great.BuildSlice
import Derived.Lib.SmallJoins
import Derived.Deep.AppendLies
import Derived.Deep.RegionHeld3
namespace Go.Proofs
open Go.Shelf
def Tryz.lays231_ren : Go.Shelf.Ren := ⟨fun | 231 => 67 | n => n, fun | 9 => 9 | 5 => 5 | 3 => 3 | 4 => 4 | n => n, fun | n => n⟩
theorem Tryz.lays231 : Go.Proofs.Lays.n231 Tryz.prog Tryz.lays231_ren := {
  mixed := by kernel_rfl
  f231 := Tryz.func67.trans (congrArg some (by kernel_rfl))
  t3 := Tryz.underlying3
  a3 := Tryz.isAgg3
  z3 := Tryz.sizeOf3
  v3 := Tryz.zeroValue3
  t4 := Tryz.underlying4
  a4 := Tryz.isAgg4
  z4 := Tryz.sizeOf4
  v4 := Tryz.zeroValue4
  t5 := Tryz.underlying5
  a5 := Tryz.isAgg5
  z5 := Tryz.sizeOf5
  v5 := Tryz.zeroValue5
  t9 := Tryz.underlying9
  a9 := Tryz.isAgg9
  z9 := Tryz.sizeOf9
  v9 := Tryz.zeroValue9 }
open Go.RowKit in
/-- strings.trimLeftByte (no doc; what TrimLeft and Trim call at a cutset of one ASCII byte): the leading bytes that are c are cut off. The world is as it was. (LAID: no walk: one application.) -/
theorem Tryz.strings_trimLeftByte (s : ByteArray) (c : UInt8) (w : World) :
    Calls Tryz.prog 67 #[.string s, .int .u8 c.toNat] w fun e w' => e = .returned (.string ⟨(Lib.trimLeftB s.data.toList c).toArray⟩) ∧ w' = w := Any.strings_trimLeftByte Tryz.lays231 s c w
def Tryz.lays161_ren : Go.Shelf.Ren := ⟨fun | 161 => 50 | 231 => 67 | 227 => 68 | 233 => 69 | 235 => 70 | 228 => 77 | 197 => 78 | 151 => 79 | 260 => 84 | 152 => 85 | 137 => 86 | 119 => 87 | 224 => 88 | 225 => 89 | 217 => 90 | 266 => 91 | n => n, fun | 9 => 9 | 4 => 4 | 3 => 3 | 5 => 5 | 117 => 171 | 116 => 170 | 0 => 0 | 124 => 174 | 105 => 189 | 21 => 21 | 119 => 207 | 46 => 167 | 139 => 210 | 138 => 209 | n => n, fun | 3 => 1 | 4 => 2 | n => n⟩
theorem Tryz.lays161 : Go.Proofs.Lays.n161 Tryz.prog Tryz.lays161_ren := {
  mixed := by kernel_rfl
  f119 := Tryz.func87.trans (congrArg some (by kernel_rfl))
  f137 := Tryz.func86.trans (congrArg some (by kernel_rfl))
  f151 := Tryz.func79.trans (congrArg some (by kernel_rfl))
  f152 := Tryz.func85.trans (congrArg some (by kernel_rfl))
  f161 := Tryz.func50.trans (congrArg some (by kernel_rfl))
  f197 := Tryz.func78.trans (congrArg some (by kernel_rfl))
  f217 := Tryz.func90.trans (congrArg some (by kernel_rfl))
  f224 := Tryz.func88.trans (congrArg some (by kernel_rfl))
  f225 := Tryz.func89.trans (congrArg some (by kernel_rfl))
  f227 := Tryz.func68.trans (congrArg some (by kernel_rfl))
  f228 := Tryz.func77.trans (congrArg some (by kernel_rfl))
  f231 := Tryz.func67.trans (congrArg some (by kernel_rfl))
  f233 := Tryz.func69.trans (congrArg some (by kernel_rfl))
  f235 := Tryz.func70.trans (congrArg some (by kernel_rfl))
  f260 := Tryz.func84.trans (congrArg some (by kernel_rfl))
  f266 := Tryz.func91.trans (congrArg some (by kernel_rfl))
  t0 := Tryz.underlying0
  a0 := Tryz.isAgg0
  z0 := Tryz.sizeOf0
  v0 := Tryz.zeroValue0
  t3 := Tryz.underlying3
  a3 := Tryz.isAgg3
  z3 := Tryz.sizeOf3
  v3 := Tryz.zeroValue3
  t4 := Tryz.underlying4
  a4 := Tryz.isAgg4
  z4 := Tryz.sizeOf4
  v4 := Tryz.zeroValue4
  t5 := Tryz.underlying5
  a5 := Tryz.isAgg5
  z5 := Tryz.sizeOf5
  v5 := Tryz.zeroValue5
  t9 := Tryz.underlying9
  a9 := Tryz.isAgg9
  z9 := Tryz.sizeOf9
  v9 := Tryz.zeroValue9
  t21 := Tryz.underlying21
  a21 := Tryz.isAgg21
  z21 := Tryz.sizeOf21
  v21 := Tryz.zeroValue21
  t46 := Tryz.underlying167
  a46 := Tryz.isAgg167
  z46 := Tryz.sizeOf167
  v46 := Tryz.zeroValue167
  t105 := Tryz.underlying189
  a105 := Tryz.isAgg189
  z105 := Tryz.sizeOf189
  v105 := Tryz.zeroValue189
  t116 := Tryz.underlying170
  a116 := Tryz.isAgg170
  z116 := Tryz.sizeOf170
  t117 := Tryz.underlying171
  a117 := Tryz.isAgg171
  z117 := Tryz.sizeOf171
  v117 := Tryz.zeroValue171
  t119 := Tryz.underlying207
  a119 := Tryz.isAgg207
  z119 := Tryz.sizeOf207
  t124 := Tryz.underlying174
  a124 := Tryz.isAgg174
  z124 := Tryz.sizeOf174
  v124 := Tryz.zeroValue174
  t138 := Tryz.underlying209
  a138 := Tryz.isAgg209
  z138 := Tryz.sizeOf209
  v138 := Tryz.zeroValue209
  t139 := Tryz.underlying210
  a139 := Tryz.isAgg210
  z139 := Tryz.sizeOf210
  v139 := Tryz.zeroValue210
  g3 := by kernel_rfl
  g4 := by kernel_rfl }
open Go.RowKit in
/-- strings.TrimLeft: "TrimLeft returns a slice of the string s with all leading Unicode code points contained in cutset removed.": AT A cutset OF ONE ASCII BYTE. The world is as it was. (LAID: no walk: one application.) -/
theorem Tryz.strings_TrimLeft_one (s : ByteArray) (c : UInt8) (hc : c.toNat < 128) (w : World) :
    Calls Tryz.prog 50 #[.string s, .string ⟨#[c]⟩] w fun e w' => e = .returned (.string ⟨(Lib.trimLeftB s.data.toList c).toArray⟩) ∧ w' = w := Any.strings_TrimLeft_one Tryz.lays161 s c hc w
def Tryz.lays119_ren : Go.Shelf.Ren := ⟨fun | 119 => 87 | n => n, fun | 21 => 21 | 4 => 4 | n => n, fun | n => n⟩
theorem Tryz.lays119 : Go.Proofs.Lays.n119 Tryz.prog Tryz.lays119_ren := {
  mixed := by kernel_rfl
  f119 := Tryz.func87.trans (congrArg some (by kernel_rfl))
  t4 := Tryz.underlying4
  a4 := Tryz.isAgg4
  z4 := Tryz.sizeOf4
  v4 := Tryz.zeroValue4
  t21 := Tryz.underlying21
  a21 := Tryz.isAgg21
  z21 := Tryz.sizeOf21
  v21 := Tryz.zeroValue21 }
/-- utf8.ValidRune: "ValidRune reports whether r can be legally encoded as UTF-8. Code points that are out of range or a surrogate half are illegal.": IT RETURNS 'Lib.validRune r'; the world is as it was. (LAID: no walk: one application.) -/
theorem Tryz.utf8_ValidRune (r : Int) (w : World) :
    Calls Tryz.prog 87 #[.int .i32 r] w fun e w' => e = .returned (.bool (Lib.validRune r)) ∧ w' = w := Any.utf8_ValidRune Tryz.lays119 r w
def Tryz.lays137_ren : Go.Shelf.Ren := ⟨fun | 137 => 86 | 217 => 90 | 266 => 91 | n => n, fun | 9 => 9 | 5 => 5 | 3 => 3 | n => n, fun | n => n⟩
theorem Tryz.lays137 : Go.Proofs.Lays.n137 Tryz.prog Tryz.lays137_ren := {
  mixed := by kernel_rfl
  f137 := Tryz.func86.trans (congrArg some (by kernel_rfl))
  f217 := Tryz.func90.trans (congrArg some (by kernel_rfl))
  f266 := Tryz.func91.trans (congrArg some (by kernel_rfl))
  t3 := Tryz.underlying3
  a3 := Tryz.isAgg3
  z3 := Tryz.sizeOf3
  v3 := Tryz.zeroValue3
  t5 := Tryz.underlying5
  a5 := Tryz.isAgg5
  z5 := Tryz.sizeOf5
  v5 := Tryz.zeroValue5
  t9 := Tryz.underlying9
  a9 := Tryz.isAgg9
  z9 := Tryz.sizeOf9
  v9 := Tryz.zeroValue9 }
open Go.RowKit in
/-- strings.IndexByte: "IndexByte returns the index of the first instance of c in s, or -1 if c is not present in s.": IT RETURNS 'Lib.indexByte s c'; the world is as it was. (LAID: no walk: one application.) -/
theorem Tryz.strings_IndexByte (s : ByteArray) (c : Int) (w : World) :
    Calls Tryz.prog 86 #[.string s, .int .u8 c] w fun e w' => e = .returned (.int .i64 (Lib.indexByte s.data.toList c.toNat.toUInt8)) ∧ w' = w := Any.strings_IndexByte Tryz.lays137 s c w
def Tryz.lays217_ren : Go.Shelf.Ren := ⟨fun | 217 => 90 | 266 => 91 | n => n, fun | 9 => 9 | 5 => 5 | 3 => 3 | n => n, fun | n => n⟩
theorem Tryz.lays217 : Go.Proofs.Lays.n217 Tryz.prog Tryz.lays217_ren := {
  mixed := by kernel_rfl
  f217 := Tryz.func90.trans (congrArg some (by kernel_rfl))
  f266 := Tryz.func91.trans (congrArg some (by kernel_rfl))
  t3 := Tryz.underlying3
  a3 := Tryz.isAgg3
  z3 := Tryz.sizeOf3
  v3 := Tryz.zeroValue3
  t5 := Tryz.underlying5
  a5 := Tryz.isAgg5
  z5 := Tryz.sizeOf5
  v5 := Tryz.zeroValue5
  t9 := Tryz.underlying9
  a9 := Tryz.isAgg9
  z9 := Tryz.sizeOf9
  v9 := Tryz.zeroValue9 }
open Go.RowKit Go.Lib in
/-- internal/stringslite.IndexByte (what strings.IndexByte calls): IT RETURNS 'Lib.indexByte s c'; the world is as it was. (LAID: no walk: one application.) -/
theorem Tryz.stringslite_IndexByte (s : ByteArray) (c : Int) (w : World) :
    Calls Tryz.prog 90 #[.string s, .int .u8 c] w fun e w' => e = .returned (.int .i64 (Lib.indexByte s.data.toList c.toNat.toUInt8)) ∧ w' = w := Any.stringslite_IndexByte Tryz.lays217 s c w
def Tryz.lays224_ren : Go.Shelf.Ren := ⟨fun | 224 => 88 | n => n, fun | 3 => 3 | n => n, fun | n => n⟩
theorem Tryz.lays224 : Go.Proofs.Lays.n224 Tryz.prog Tryz.lays224_ren := {
  mixed := by kernel_rfl
  f224 := Tryz.func88.trans (congrArg some (by kernel_rfl))
  t3 := Tryz.underlying3
  a3 := Tryz.isAgg3
  z3 := Tryz.sizeOf3
  v3 := Tryz.zeroValue3 }
open Go.RowKit Go.Lib in
/-- internal/bytealg.Cutover: "Cutover reports the number of failures of IndexByte we should tolerate before switching over to Index. n is the number of bytes processed so far.": on amd64: (n + 16) / 8. (LAID: no walk: one application.) -/
theorem Tryz.bytealg_Cutover (n : Int) (h0 : 0 ≤ n) (h1 : n < 4611686018427387904) (w : World) :
    Calls Tryz.prog 88 #[.int .i64 n] w fun e w' => e = .returned (.int .i64 ((n + 16) / 8)) ∧ w' = w := Any.bytealg_Cutover Tryz.lays224 n h0 h1 w
def Tryz.lays152_ren : Go.Shelf.Ren := ⟨fun | 152 => 85 | 137 => 86 | 119 => 87 | 224 => 88 | 225 => 89 | 217 => 90 | 266 => 91 | n => n, fun | 9 => 9 | 21 => 21 | 3 => 3 | 4 => 4 | 5 => 5 | 0 => 0 | 46 => 167 | n => n, fun | n => n⟩
theorem Tryz.lays152 : Go.Proofs.Lays.n152 Tryz.prog Tryz.lays152_ren := {
  mixed := by kernel_rfl
  f119 := Tryz.func87.trans (congrArg some (by kernel_rfl))
  f137 := Tryz.func86.trans (congrArg some (by kernel_rfl))
  f152 := Tryz.func85.trans (congrArg some (by kernel_rfl))
  f217 := Tryz.func90.trans (congrArg some (by kernel_rfl))
  f224 := Tryz.func88.trans (congrArg some (by kernel_rfl))
  f225 := Tryz.func89.trans (congrArg some (by kernel_rfl))
  f266 := Tryz.func91.trans (congrArg some (by kernel_rfl))
  t0 := Tryz.underlying0
  a0 := Tryz.isAgg0
  z0 := Tryz.sizeOf0
  v0 := Tryz.zeroValue0
  t3 := Tryz.underlying3
  a3 := Tryz.isAgg3
  z3 := Tryz.sizeOf3
  v3 := Tryz.zeroValue3
  t4 := Tryz.underlying4
  a4 := Tryz.isAgg4
  z4 := Tryz.sizeOf4
  v4 := Tryz.zeroValue4
  t5 := Tryz.underlying5
  a5 := Tryz.isAgg5
  z5 := Tryz.sizeOf5
  v5 := Tryz.zeroValue5
  t9 := Tryz.underlying9
  a9 := Tryz.isAgg9
  z9 := Tryz.sizeOf9
  v9 := Tryz.zeroValue9
  t21 := Tryz.underlying21
  a21 := Tryz.isAgg21
  z21 := Tryz.sizeOf21
  v21 := Tryz.zeroValue21
  t46 := Tryz.underlying167
  a46 := Tryz.isAgg167
  z46 := Tryz.sizeOf167
  v46 := Tryz.zeroValue167 }
open Go.RowKit Go.Lib in
theorem Tryz.strings_IndexRune_ascii (s : ByteArray) (r : Int) (w : World) (h0 : 0 ≤ r) (h1 : r < 128) :
    Calls Tryz.prog 85 #[.string s, .int .i32 r] w fun e w' => e = .returned (.int .i64 (Lib.indexByte s.data.toList r.toNat.toUInt8)) ∧ w' = w := Any.strings_IndexRune_ascii Tryz.lays152 s r w h0 h1
def Tryz.lays151_ren : Go.Shelf.Ren := ⟨fun | 151 => 79 | 152 => 85 | 137 => 86 | 119 => 87 | 224 => 88 | 225 => 89 | 217 => 90 | 266 => 91 | n => n, fun | 9 => 9 | 21 => 21 | 4 => 4 | 3 => 3 | 5 => 5 | 0 => 0 | 46 => 167 | n => n, fun | n => n⟩
theorem Tryz.lays151 : Go.Proofs.Lays.n151 Tryz.prog Tryz.lays151_ren := {
  mixed := by kernel_rfl
  f119 := Tryz.func87.trans (congrArg some (by kernel_rfl))
  f137 := Tryz.func86.trans (congrArg some (by kernel_rfl))
  f151 := Tryz.func79.trans (congrArg some (by kernel_rfl))
  f152 := Tryz.func85.trans (congrArg some (by kernel_rfl))
  f217 := Tryz.func90.trans (congrArg some (by kernel_rfl))
  f224 := Tryz.func88.trans (congrArg some (by kernel_rfl))
  f225 := Tryz.func89.trans (congrArg some (by kernel_rfl))
  f266 := Tryz.func91.trans (congrArg some (by kernel_rfl))
  t0 := Tryz.underlying0
  a0 := Tryz.isAgg0
  z0 := Tryz.sizeOf0
  v0 := Tryz.zeroValue0
  t3 := Tryz.underlying3
  a3 := Tryz.isAgg3
  z3 := Tryz.sizeOf3
  v3 := Tryz.zeroValue3
  t4 := Tryz.underlying4
  a4 := Tryz.isAgg4
  z4 := Tryz.sizeOf4
  v4 := Tryz.zeroValue4
  t5 := Tryz.underlying5
  a5 := Tryz.isAgg5
  z5 := Tryz.sizeOf5
  v5 := Tryz.zeroValue5
  t9 := Tryz.underlying9
  a9 := Tryz.isAgg9
  z9 := Tryz.sizeOf9
  v9 := Tryz.zeroValue9
  t21 := Tryz.underlying21
  a21 := Tryz.isAgg21
  z21 := Tryz.sizeOf21
  v21 := Tryz.zeroValue21
  t46 := Tryz.underlying167
  a46 := Tryz.isAgg167
  z46 := Tryz.sizeOf167
  v46 := Tryz.zeroValue167 }
open Go.RowKit Go.Lib in
theorem Tryz.strings_ContainsRune_ascii (s : ByteArray) (r : Int) (w : World) (h0 : 0 ≤ r) (h1 : r < 128) :
    Calls Tryz.prog 79 #[.string s, .int .i32 r] w fun e w' => e = .returned (.bool (decide (0 ≤ Lib.indexByte s.data.toList r.toNat.toUInt8))) ∧ w' = w := Any.strings_ContainsRune_ascii Tryz.lays151 s r w h0 h1
def Tryz.lays227_ren : Go.Shelf.Ren := ⟨fun | 227 => 68 | n => n, fun | 9 => 9 | 116 => 170 | 4 => 4 | 0 => 0 | 3 => 3 | 5 => 5 | n => n, fun | n => n⟩
theorem Tryz.lays227 : Go.Proofs.Lays.n227 Tryz.prog Tryz.lays227_ren := {
  mixed := by kernel_rfl
  f227 := Tryz.func68.trans (congrArg some (by kernel_rfl))
  t0 := Tryz.underlying0
  a0 := Tryz.isAgg0
  z0 := Tryz.sizeOf0
  v0 := Tryz.zeroValue0
  t3 := Tryz.underlying3
  a3 := Tryz.isAgg3
  z3 := Tryz.sizeOf3
  v3 := Tryz.zeroValue3
  t4 := Tryz.underlying4
  a4 := Tryz.isAgg4
  z4 := Tryz.sizeOf4
  v4 := Tryz.zeroValue4
  t5 := Tryz.underlying5
  a5 := Tryz.isAgg5
  z5 := Tryz.sizeOf5
  v5 := Tryz.zeroValue5
  t9 := Tryz.underlying9
  a9 := Tryz.isAgg9
  z9 := Tryz.sizeOf9
  v9 := Tryz.zeroValue9
  t116 := Tryz.underlying170
  a116 := Tryz.isAgg170
  z116 := Tryz.sizeOf170 }
open Go.RowKit Go.Lib in
theorem Tryz.strings_makeASCIISet (hv116 : ∀ w, (zeroValue 170).run Tryz.prog w = .ok (.agg (Array.replicate 256 (.bool false))) w) (chars : ByteArray) (w : World) (hs : chars.size < 4294967281) (hascii : ∀ (j : Nat) b, chars.data.toList[j]? = some b → b.toNat < 128) :
    Calls Tryz.prog 68 #[.string chars] w fun e w' => e = .returned (.tuple #[.agg (Lib.setCells chars.data.toList), .bool true]) ∧ w' = w.alloc (.cells (Lib.setCells chars.data.toList) 170) := Any.strings_makeASCIISet Tryz.lays227 hv116 (by kernel_rfl) chars w hs hascii
def Tryz.lays228_ren : Go.Shelf.Ren := ⟨fun | 228 => 77 | n => n, fun | 124 => 174 | 5 => 5 | 4 => 4 | 0 => 0 | 116 => 170 | n => n, fun | n => n⟩
theorem Tryz.lays228 : Go.Proofs.Lays.n228 Tryz.prog Tryz.lays228_ren := {
  mixed := by kernel_rfl
  f228 := Tryz.func77.trans (congrArg some (by kernel_rfl))
  t0 := Tryz.underlying0
  a0 := Tryz.isAgg0
  z0 := Tryz.sizeOf0
  v0 := Tryz.zeroValue0
  t4 := Tryz.underlying4
  a4 := Tryz.isAgg4
  z4 := Tryz.sizeOf4
  v4 := Tryz.zeroValue4
  t5 := Tryz.underlying5
  a5 := Tryz.isAgg5
  z5 := Tryz.sizeOf5
  v5 := Tryz.zeroValue5
  t116 := Tryz.underlying170
  a116 := Tryz.isAgg170
  z116 := Tryz.sizeOf170
  t124 := Tryz.underlying174
  a124 := Tryz.isAgg174
  z124 := Tryz.sizeOf174
  v124 := Tryz.zeroValue174 }
open Go.RowKit Go.Lib in
/-- '(as *asciiSet) contains(c)': 'as[c]': the set lies at block b, whole. (LAID: no walk: one application.) -/
theorem Tryz.asciiSet_contains (b : Nat) (x : UInt8) (v : Bool) (w : World) (hc : w.cell? ⟨b, x.toNat, none⟩ = some (.bool v)) :
    Calls Tryz.prog 77 #[.pointer (some ⟨b, 0, none⟩), .int .u8 x.toNat] w fun e w' => e = .returned (.bool v) ∧ w' = w := Any.asciiSet_contains Tryz.lays228 b x v w hc
def Tryz.lays260_ren : Go.Shelf.Ren := ⟨fun | 260 => 84 | n => n, fun | 9 => 9 | 21 => 21 | 3 => 3 | 4 => 4 | 5 => 5 | 119 => 207 | 0 => 0 | 46 => 167 | 139 => 210 | 138 => 209 | n => n, fun | 3 => 1 | 4 => 2 | n => n⟩
theorem Tryz.lays260 : Go.Proofs.Lays.n260 Tryz.prog Tryz.lays260_ren := {
  mixed := by kernel_rfl
  f260 := Tryz.func84.trans (congrArg some (by kernel_rfl))
  t0 := Tryz.underlying0
  a0 := Tryz.isAgg0
  z0 := Tryz.sizeOf0
  v0 := Tryz.zeroValue0
  t3 := Tryz.underlying3
  a3 := Tryz.isAgg3
  z3 := Tryz.sizeOf3
  v3 := Tryz.zeroValue3
  t4 := Tryz.underlying4
  a4 := Tryz.isAgg4
  z4 := Tryz.sizeOf4
  v4 := Tryz.zeroValue4
  t5 := Tryz.underlying5
  a5 := Tryz.isAgg5
  z5 := Tryz.sizeOf5
  v5 := Tryz.zeroValue5
  t9 := Tryz.underlying9
  a9 := Tryz.isAgg9
  z9 := Tryz.sizeOf9
  v9 := Tryz.zeroValue9
  t21 := Tryz.underlying21
  a21 := Tryz.isAgg21
  z21 := Tryz.sizeOf21
  v21 := Tryz.zeroValue21
  t46 := Tryz.underlying167
  a46 := Tryz.isAgg167
  z46 := Tryz.sizeOf167
  v46 := Tryz.zeroValue167
  t119 := Tryz.underlying207
  a119 := Tryz.isAgg207
  z119 := Tryz.sizeOf207
  t138 := Tryz.underlying209
  a138 := Tryz.isAgg209
  z138 := Tryz.sizeOf209
  v138 := Tryz.zeroValue209
  t139 := Tryz.underlying210
  a139 := Tryz.isAgg210
  z139 := Tryz.sizeOf210
  v139 := Tryz.zeroValue210
  g3 := by kernel_rfl
  g4 := by kernel_rfl }
open Go.RowKit Go.Lib in
theorem Tryz.utf8_decodeRuneInStringSlow (s : ByteArray) (w : World) (hT : Lib.Utf8Tabs 1 2 w) :
    Calls Tryz.prog 84 #[.string s] w fun e w' => e = .returned (.tuple #[.int .i32 (Lib.decodeGo s).1, .int .i64 (Lib.decodeGo s).2]) ∧ Below w.heap.size w w' := Any.utf8_decodeRuneInStringSlow Tryz.lays260 s w hT
end Go.Proofs

namespace Go.Proofs.YtocgnbbnaamjjaaGreatDoor
open Go.RowKit
set_option linter.unusedVariables false
set_option maxRecDepth 100000





theorem Tryz.byteInfo : (Tryz.prog.info? 5).map (fun i => (i.zero, i.size, i.bytes)) = some (some (.int .u8 0), 1, 1) := by kernel_rfl











end Go.Proofs.YtocgnbbnaamjjaaGreatDoor

namespace Go.Proofs.YtocgnbbnaamjjaaGreatDoor
open Go.RowKit
attribute [local go_sem ↓] Go.wp_at_zero Go.wp_at_succ
set_option linter.unusedSimpArgs false
set_option linter.unusedVariables false
set_option maxRecDepth 100000

















theorem cells_app (a b : List UInt8) : Lib.byteCells (a ++ b) = Lib.byteCells a ++ Lib.byteCells b := by simp [Lib.byteCells]

theorem cells_len (a : List UInt8) : (Lib.byteCells a).length = a.length := by simp [Lib.byteCells]







end Go.Proofs.YtocgnbbnaamjjaaGreatDoor

namespace Go.Proofs.YtocgnbbnaamjjaaGreatDoor
open Go.RowKit
attribute [local go_sem ↓] Go.wp_at_zero Go.wp_at_succ
set_option linter.unusedSimpArgs false
set_option linter.unusedVariables false
set_option maxRecDepth 100000

theorem isB_below {T e : TypeId} {B b : Nat} {bs : List Value} {w w' : World} (h : Lib.IsBuilder T e B b bs w) (hb : Below w.heap.size w w') : Lib.IsBuilder T e B b bs w' := by
  have hg : w.grownBy w' none := ⟨hb.os, hb.tape, hb.output, hb.size, fun k hk _ => hb.block k hk⟩
  have key : ∀ p, Lib.BuilderAt T e B b p bs w → Lib.BuilderAt T e B b p bs w' := fun p h => by
    have hlt := h.lt
    obtain ⟨hB, v, hbk, hown, hne⟩ := h
    exact ⟨hB, v, (hb.block b hlt).trans hbk, hown.kept hg (by cases hv : v.ownBlock <;> simp), hne⟩
  rcases h with h | h
  · exact Or.inl (key _ h)
  · exact Or.inr (key _ h)



end Go.Proofs.YtocgnbbnaamjjaaGreatDoor

namespace Go.Proofs.YtocgnbbnaamjjaaGreatDoor
open Go.RowKit
attribute [local go_sem ↓] Go.wp_at_zero Go.wp_at_succ
set_option linter.unusedSimpArgs false
set_option linter.unusedVariables false
set_option maxRecDepth 100000

theorem Tryz.byteOne : (Tryz.prog.info? 5).map (·.size) = some 1 := by kernel_rfl





end Go.Proofs.YtocgnbbnaamjjaaGreatDoor

namespace Go.Proofs.YtocgnbbnaamjjaaGreatDoor
open Go.RowKit
attribute [local go_sem ↓] Go.wp_at_zero Go.wp_at_succ
set_option linter.unusedSimpArgs false
set_option linter.unusedVariables false
set_option maxRecDepth 100000

def catB (l : List ByteArray) : List UInt8 := l.flatMap (·.data.toList)

theorem catB_take (l : List ByteArray) (k : Nat) (hk : k < l.length) : catB (l.take (k + 1)) = catB (l.take k) ++ l[k].data.toList := by
  unfold catB
  rw [List.take_add_one, List.getElem?_eq_getElem hk, List.flatMap_append]
  simp

theorem catB_le (l : List ByteArray) (k : Nat) : (catB (l.take k)).length ≤ (catB l).length := by
  have h : catB l = catB (l.take k) ++ catB (l.drop k) := by
    unfold catB
    rw [← List.flatMap_append, List.take_append_drop]
  rw [h, List.length_append]
  omega





end Go.Proofs.YtocgnbbnaamjjaaGreatDoor

namespace Go.Proofs.YtocgnbbnaamjjaaGreatDoor
open Go.RowKit





end Go.Proofs.YtocgnbbnaamjjaaGreatDoor

namespace Go.Proofs.YtocgnbbnaamjjaaGreatDoor
open Go.RowKit
attribute [local go_sem ↓] Go.wp_at_zero Go.wp_at_succ
set_option linter.unusedSimpArgs false
set_option linter.unusedVariables false
set_option maxRecDepth 100000

theorem Tryz.stParts : (Tryz.prog.info? 9).map (fun i => (i.zero, i.size, i.bytes)) = some (some (.string ⟨#[]⟩), 1, 16) := by kernel_rfl

theorem fill_st (v : ByteArray) : Instr.fill (fun i => some (i * 1, 1)) ((Array.range (1 * 1)).map ((Value.string ⟨#[]⟩).cells[· % (Value.string ⟨#[]⟩).cells.size]!)) [(0, .string v)] = some (stC v) := by kernel_rfl

theorem fill_st6 (a b c d e f : ByteArray) : Instr.fill (fun i => some (i * 1, 1)) ((Array.range (6 * 1)).map ((Value.string ⟨#[]⟩).cells[· % (Value.string ⟨#[]⟩).cells.size]!)) [(0, .string a), (1, .string b), (2, .string c), (3, .string d), (4, .string e), (5, .string f)] = some #[.string a, .string b, .string c, .string d, .string e, .string f] := by kernel_rfl

/-- A list of one text. -/
theorem slice_st {o : Oper} {a : Act} {w : World} {K : Act → World → Prop} {Q : Exit → Act → World → Prop} {x : Operand} (y : ByteArray) (ho : o.op = .buildSlice 24 1 #[(0, x)]) (hx : a.eval x = .string y)
    (h : ∀ w1, Blk w1 w.heap.size 9 (stC y) → Below w.heap.size w w1 → w.heap.size < w1.heap.size → K (a.put o.dst (.slice (some ⟨w.heap.size, 0, none⟩) 1 1)) w1) : Oper.wp Tryz.prog o a w K Q := by
  obtain ⟨i0, hi, hz0, hz1, hz2⟩ := info_parts Tryz.stParts
  refine wp_buildSlice 24 9 1 _ ho (stC y) i0 (.string ⟨#[]⟩) Tryz.underlying24 hi hz0 (by rw [hz1]; decide) (by rw [hz1]; decide) (by rw [hz1]; simp only [List.map_toArray, List.map_cons, List.map_nil, hx]; exact fill_st y) (h _ (Blk.new w _ _) ((Below.refl _ _).alloc (Nat.le_refl _) _) (Blk.new w _ _).lt)

theorem sliceL_st {ops : Array Oper} {rest : List Oper} {o : Oper} {a : Act} {w : World} {Q : Exit → Act → World → Prop} {x : Operand} (y : ByteArray) (hg : o.guard = none) (ho : o.op = .buildSlice 24 1 #[(0, x)]) (hx : a.eval x = .string y)
    (h : ∀ w1, Blk w1 w.heap.size 9 (stC y) → Below w.heap.size w w1 → w.heap.size < w1.heap.size → wpList Tryz.prog ops Q rest (a.put o.dst (.slice (some ⟨w.heap.size, 0, none⟩) 1 1)) w1) : wpList Tryz.prog ops Q (o :: rest) a w :=
  wpList_plain hg fun _ hK => slice_st y ho hx fun w1 hB hb hs => hK _ _ (h w1 hB hb hs)

theorem stIn_one {w : World} {g : Nat} {y : ByteArray} (h : Blk w g 9 (stC y)) (hlt : g < w.heap.size) : StIn w (some ⟨g, 0, none⟩) [y] :=
  Or.inr ⟨g, 0, rfl, hlt, fun j hj => by
    have : j = 0 := by simp at hj; omega
    subst this
    intro i v hv
    have := h.cv i v hv
    simpa using this⟩

/-- A number's bytes, and a name's. -/
def nmW (x : Nm) : List UInt8 := putL x.su.toNat 1 ++ x.id.data.toList

theorem nmW_len (x : Nm) : (nmW x).length = 1 + x.id.size := by simp [nmW, putL_length]













theorem slice6_st {o : Oper} {a : Act} {w : World} {K : Act → World → Prop} {Q : Exit → Act → World → Prop} {x0 x1 x2 x3 x4 x5 : Operand} (y0 y1 y2 y3 y4 y5 : ByteArray) (ho : o.op = .buildSlice 24 6 #[(0, x0), (1, x1), (2, x2), (3, x3), (4, x4), (5, x5)]) (h0 : a.eval x0 = .string y0) (h1 : a.eval x1 = .string y1) (h2 : a.eval x2 = .string y2) (h3 : a.eval x3 = .string y3) (h4 : a.eval x4 = .string y4) (h5 : a.eval x5 = .string y5)
    (h : ∀ w1, StAt w1 w.heap.size 0 [y0, y1, y2, y3, y4, y5] → Below w.heap.size w w1 → w.heap.size < w1.heap.size → K (a.put o.dst (.slice (some ⟨w.heap.size, 0, none⟩) 6 6)) w1) : Oper.wp Tryz.prog o a w K Q := by
  obtain ⟨i0, hi, hz0, hz1, hz2⟩ := info_parts Tryz.stParts
  refine wp_buildSlice 24 9 6 _ ho #[.string y0, .string y1, .string y2, .string y3, .string y4, .string y5] i0 (.string ⟨#[]⟩) Tryz.underlying24 hi hz0 (by rw [hz1]; decide) (by rw [hz1]; decide) (by rw [hz1]; simp only [List.map_toArray, List.map_cons, List.map_nil, h0, h1, h2, h3, h4, h5]; exact fill_st6 y0 y1 y2 y3 y4 y5) (h _ ?_ ((Below.refl _ _).alloc (Nat.le_refl _) _) (Blk.new w _ _).lt)
  have hB := Blk.new w 9 #[.string y0, .string y1, .string y2, .string y3, .string y4, .string y5]
  generalize w.alloc (.cells #[.string y0, .string y1, .string y2, .string y3, .string y4, .string y5] 9) = w1 at *
  intro j hj i v hv
  have hi0 : i = 0 := by
    rcases Nat.eq_zero_or_pos i with q | q
    · exact q
    · rw [Array.getElem?_eq_none (by show 1 ≤ i; omega)] at hv
      cases hv
  subst hi0
  have hj6 : j = 0 ∨ j = 1 ∨ j = 2 ∨ j = 3 ∨ j = 4 ∨ j = 5 := by
    have : j < 6 := hj
    omega
  rcases hj6 with rfl | rfl | rfl | rfl | rfl | rfl
  · exact hB.cv 0 v hv
  · exact hB.cv 1 v hv
  · exact hB.cv 2 v hv
  · exact hB.cv 3 v hv
  · exact hB.cv 4 v hv
  · exact hB.cv 5 v hv

/-- An address by which one may be managed, as bytes. -/
def mgN (x : Mg) : Nm := ⟨x.asb, x.ai⟩

def mgW (x : Mg) : List UInt8 := putL (1 + x.ai.size) 1 ++ (nmW (mgN x) ++ (putL x.fs.toNat 1 ++ (putL x.fi.toNat 4 ++ (putL x.oid.size 1 ++ x.oid.data.toList))))

theorem mgW_len (x : Mg) : (mgW x).length = 8 + x.ai.size + x.oid.size := by
  simp [mgW, nmW, mgN, putL_length]
  omega



end Go.Proofs.YtocgnbbnaamjjaaGreatDoor

namespace Go.Proofs.YtocgnbbnaamjjaaGreatDoor
open Go.RowKit
attribute [local go_sem ↓] Go.wp_at_zero Go.wp_at_succ
set_option linter.unusedSimpArgs false
set_option linter.unusedVariables false
set_option maxRecDepth 100000

def tlC (x : Tl) : Array Value := #[.int .i64 x.k, .string x.t]

def rgTl (x : Tl) : Prop := i64R x.k ∧ x.t.size ≤ maxLen

def TlAt (w : World) (b o : Nat) (l : List Tl) : Prop := ∀ j (hj : j < l.length), CellsAt w b (o + j * 2) (tlC l[j])

def TlIn (w : World) (a : Option Addr) (l : List Tl) : Prop := l = [] ∨ ∃ b o, a = some ⟨b, o, none⟩ ∧ b < w.heap.size ∧ TlAt w b o l

theorem TlAt.below {w w' : World} {b o D : Nat} {l : List Tl} (h : TlAt w b o l) (hb : Below D w w') (hB : b < D) : TlAt w' b o l := fun j hj => (h j hj).below hb hB

theorem TlIn.below {w w' : World} {a : Option Addr} {l : List Tl} (h : TlIn w a l) (hb : Below w.heap.size w w') : TlIn w' a l := by
  rcases h with h | ⟨b, o, h1, h2, h3⟩
  · exact Or.inl h
  · exact Or.inr ⟨b, o, h1, Nat.lt_of_lt_of_le h2 hb.size, fun j hj => (h3 j hj).below hb h2⟩

theorem TlIn.drew {w : World} {a : Option Addr} {l : List Tl} (h : TlIn w a l) : TlIn w.drew a l := h

theorem TlIn.at {w : World} {a : Option Addr} {l : List Tl} (h : TlIn w a l) {k : Nat} (hk : k < l.length) : ∃ b o, a = some ⟨b, o, none⟩ ∧ b < w.heap.size ∧ TlAt w b o l := by
  rcases h with rfl | h
  · simp at hk
  · exact h

/-- A list that lay somewhere ahead lies there still. -/
theorem TlIn.late {w0 w w' : World} {a : Option Addr} {l : List Tl} (h : TlIn w a l) (h0 : TlIn w0 a l) (hb : Below w0.heap.size w w') : TlIn w' a l := by
  rcases h with h | ⟨b, o, e1, e2, e3⟩
  · exact Or.inl h
  · rcases h0 with h0 | ⟨b0, o0, f1, f2, f3⟩
    · exact Or.inl h0
    · rw [e1] at f1
      cases f1
      exact Or.inr ⟨b, o, e1, Nat.lt_of_lt_of_le e2 hb.size, e3.below hb f2⟩

theorem Tryz.tlZero : (Tryz.prog.info? 80).map (·.zero) = some (some (.agg (tlC zTl))) := by kernel_rfl

def eqTl (a b : Tl) : Bool := (a.k == b.k) && (a.t.toList == b.t.toList)

theorem run_eql_tl (d : Nat) (a b : Tl) (w : World) : (Op.equalIn (d + 5) 80 (.agg (tlC a)) (.agg (tlC b))).run Tryz.prog w = .ok (eqTl a b) w := by
  have hs : Tryz.prog.stoodInHeld 80 = false := by kernel_rfl
  have hu : Tryz.prog.underlying 80 = some (.struct (Tryz.prog.fieldsOf 80)) := by kernel_rfl
  have hf : (Tryz.prog.fieldsOf 80).toList.map (fun f => (f.name == "_", f.type, f.offset)) = [(false, 3, 0), (false, 9, 1)] := by kernel_rfl
  rw [run_equalIn_agg w (d + 4) 80 _ _ hu hs]
  obtain ⟨f0, l0, h0, g0, hf⟩ := List.map_eq_cons_iff.1 hf
  obtain ⟨f1, l1, rfl, g1, hf⟩ := List.map_eq_cons_iff.1 hf
  obtain rfl := List.map_eq_nil_iff.1 hf
  rw [h0]
  have e0 := run_equalIn_int (P := Tryz.prog) w (d + 3) 3 .i64 .i64 a.k b.k Tryz.underlying3
  have e1 := run_equalIn_string (P := Tryz.prog) w (d + 3) 9 a.t b.t Tryz.underlying9
  have h := run_eqFields_cons w (d + 4) (tlC a) (tlC b) f0 _ _ _ _ _ _ _ g0 (run_part_one w _ _ 0 _ (by kernel_rfl) rfl) (run_part_one w _ _ 0 _ (by kernel_rfl) rfl) e0
    (run_eqFields_cons w (d + 4) (tlC a) (tlC b) f1 _ _ _ _ _ _ _ g1 (run_part_one w _ _ 1 _ (by kernel_rfl) rfl) (run_part_one w _ _ 1 _ (by kernel_rfl) rfl) e1
    (run_eqFields_nil w (d + 4) _ _))
  rw [Bool.and_true] at h
  exact h

theorem eqTl_same (a : Tl) : eqTl a a = true := by simp [eqTl]

theorem tl_same (x : Tl) (W : World) : (Op.equalIn 10000 80 (.agg (tlC x)) (.agg (tlC x))).run Tryz.prog W = .ok true W := by
  have h := run_eql_tl 9995 x x W
  rw [eqTl_same] at h
  exact h

/-- The cells of records, one behind the other. -/
def tlR (l : List Tl) : List Value := l.flatMap fun v => (tlC v).toList

theorem tlR_cons (v : Tl) (l : List Tl) : tlR (v :: l) = (tlC v).toList ++ tlR l := by simp [tlR]

theorem tlR_append (l m : List Tl) : tlR (l ++ m) = tlR l ++ tlR m := by simp [tlR]

theorem tlR_one (v : Tl) : tlR [v] = (tlC v).toList := by simp [tlR]

theorem tlC_len (v : Tl) : (tlC v).toList.length = 2 := rfl

theorem tlR_len (l : List Tl) : (tlR l).length = l.length * 2 := by
  induction l with
  | nil => rfl
  | cons v l ih => rw [tlR_cons, List.length_append, ih, tlC_len, List.length_cons]; omega

theorem tlR_get : ∀ (l : List Tl) (j : Nat) (hj : j < l.length) (k : Nat), k < 2 → (tlR l)[j * 2 + k]? = (tlC l[j])[k]?
  | [], j, hj, _, _ => by simp at hj
  | v :: l, 0, _, k, hk => by
    rw [tlR_cons, List.getElem?_append_left (by rw [tlC_len]; omega)]
    simp
  | v :: l, j + 1, hj, k, hk => by
    have ih := tlR_get l j (by simpa using hj) k hk
    rw [tlR_cons, List.getElem?_append_right (by rw [tlC_len]; omega), tlC_len, show (j + 1) * 2 + k - 2 = j * 2 + k by omega, ih]
    rfl

theorem tlC_cells (v : Tl) : ∀ u ∈ (tlC v).toList, u.oneCell' = true := by
  intro u hu
  simp only [tlC, List.mem_cons, List.not_mem_nil, or_false] at hu
  rcases hu with rfl | rfl <;> rfl

theorem tlR_cells (l : List Tl) : ∀ u ∈ tlR l, u.oneCell' = true := by
  intro u hu
  unfold tlR at hu
  obtain ⟨v, _, hv⟩ := List.mem_flatMap.1 hu
  exact tlC_cells v u hv

theorem tlAt_news {w : World} {b o : Nat} {l : List Tl} (h : TlAt w b o l) : ∀ (q : Nat) u, (tlR l)[q]? = some u → w.cell? ((⟨b, o, none⟩ : Addr).add q) = some u := by
  intro q u hu
  have hq : q < l.length * 2 := by
    rw [← tlR_len]
    exact (List.getElem?_eq_some_iff.1 hu).1
  have hj : q / 2 < l.length := by omega
  have e : q = q / 2 * 2 + q % 2 := by omega
  rw [e, tlR_get l (q / 2) hj (q % 2) (by omega)] at hu
  have := h (q / 2) hj (q % 2) u hu
  rw [e, Addr.add_lit, ← Nat.add_assoc]
  exact this

theorem tl_own {w : World} {base g cap n : Nat} {T : TypeId} {l : List Tl} (hn : n = l.length) (h : w.ownsRow base T 2 (.slice (some ⟨g, 0, none⟩) n cap) n (tlR l)) : TlAt w g 0 l := by
  subst hn
  intro j hj k c hc
  have hk : k < 2 := (Array.getElem?_eq_some_iff.1 hc).1
  have h2 := h.cellAt (j * 2 + k) (by omega)
  rw [tlR_get l j hj k hk, hc] at h2
  rw [Nat.zero_add]
  exact h2

/-- A row of records of one's own: none, or a block from base on. -/
def OwnTl (w : World) (base : Nat) (v : Value) (l : List Tl) : Prop := (l = [] ∧ v = .slice none 0 0) ∨ (l ≠ [] ∧ ∃ g cap, v = .slice (some ⟨g, 0, none⟩) l.length cap ∧ w.ownsRow base 80 2 v l.length (tlR l))

theorem OwnTl.nil (w : World) (base : Nat) : OwnTl w base (.slice none 0 0) [] := Or.inl ⟨rfl, rfl⟩

theorem OwnTl.kept {w w' : World} {base : Nat} {v : Value} {l : List Tl} (h : OwnTl w base v l) (hb : Below w.heap.size w w') : OwnTl w' base v l := by
  rcases h with h | ⟨h1, g, cap, rfl, h2⟩
  · exact Or.inl h
  · exact Or.inr ⟨h1, g, cap, rfl, h2.kept (show w.grownBy w' none from ⟨hb.os, hb.tape, hb.output, hb.size, fun k hk _ => hb.block k hk⟩) (Or.inr (by simp [Value.ownBlock]))⟩

theorem OwnTl.alloc {w : World} {base : Nat} {v : Value} {l : List Tl} (h : OwnTl w base v l) (o : Obj) : OwnTl (w.alloc o) base v l := h.kept ((Below.refl _ _).alloc (Nat.le_refl _) o)

theorem OwnTl.inL {w : World} {base : Nat} {v : Value} {l : List Tl} (h : OwnTl w base v l) : ∃ a c, v = .slice a l.length c ∧ TlIn w a l := by
  rcases h with ⟨rfl, rfl⟩ | ⟨h1, g, cap, rfl, h2⟩
  · exact ⟨none, 0, rfl, Or.inl rfl⟩
  · exact ⟨some ⟨g, 0, none⟩, cap, rfl, Or.inr ⟨g, 0, rfl, (h2.lt g rfl).2, tl_own rfl h2⟩⟩

theorem tlR_snoc (l : List Tl) (x : Tl) : tlR (l ++ [x]) = tlR l ++ (tlC x).toList := by rw [tlR_append, tlR_one]

/-- Another block is written. -/
theorem OwnTl.grown {w w' : World} {base : Nat} {v : Value} {l : List Tl} {row : Option Nat} (h : OwnTl w base v l) (hg : w.grownBy w' row) (hr : ∀ g, row = some g → g < base) : OwnTl w' base v l := by
  rcases h with h | ⟨h1, g, cap, rfl, h2⟩
  · exact Or.inl h
  · refine Or.inr ⟨h1, g, cap, rfl, h2.kept hg ?_⟩
    right
    intro e
    have h3 := (h2.lt g rfl).1
    have := hr g (by rw [← e]; simp [Value.ownBlock])
    omega

theorem OwnTl.mono {w : World} {base B : Nat} {v : Value} {l : List Tl} (h : OwnTl w base v l) (hB : B ≤ base) : OwnTl w B v l := by
  rcases h with h | ⟨h1, g, cap, rfl, h2, h3⟩
  · exact Or.inl h
  · refine Or.inr ⟨h1, g, cap, rfl, h2, ?_⟩
    rcases h3 with h3 | ⟨g', cap', cur, e1, e2, e3⟩
    · exact Or.inl h3
    · exact Or.inr ⟨g', cap', cur, e1, Nat.le_trans hB e2, e3⟩

/-- Its block. -/
theorem OwnTl.blk {w : World} {base : Nat} {v : Value} {l : List Tl} (h : OwnTl w base v l) : v.ownBlock = none ∨ ∃ g C, v.ownBlock = some g ∧ base ≤ g ∧ Blk w g 80 C := by
  rcases h with ⟨rfl, rfl⟩ | ⟨h1, g, cap, rfl, h2⟩
  · exact Or.inl rfl
  · rcases h2.2 with ⟨h3, -⟩ | ⟨g1, cap1, cur1, e1, e2, e3, -⟩
    · cases h3
    · cases e1
      exact Or.inr ⟨g, cur1, rfl, e2, e3⟩

/-- A block of another type is written. -/
theorem OwnTl.other {w w' : World} {base B : Nat} {v : Value} {l : List Tl} {T : TypeId} {C : Array Value} (h : OwnTl w base v l) (hB : Blk w B T C) (hT : T ≠ 80) (hg : w.grownBy w' (some B)) : OwnTl w' base v l := by
  have hb := h.blk
  rcases h with h | ⟨h1, g, cap, rfl, h2⟩
  · exact Or.inl h
  · refine Or.inr ⟨h1, g, cap, rfl, h2.kept hg ?_⟩
    right
    intro e
    rcases hb with hb | ⟨g1, C1, e1, e2, e3⟩
    · rw [hb] at e; cases e
    · rw [e1] at e
      cases e
      have h3 : w.heap[B]? = some (.cells C T (0, 0)) := hB
      have h4 : w.heap[B]? = some (.cells C1 80 (0, 0)) := e3
      rw [h3] at h4
      injection h4 with h4
      injection h4 with _ h5
      exact hT h5

theorem Tryz.tlParts : (Tryz.prog.info? 80).map (fun i => (i.zero, i.size, i.bytes)) = some (some (.agg (tlC zTl)), 2, 24) := by kernel_rfl

theorem fill_tl (v : Tl) : Instr.fill (fun i => some (i * 2, 2)) ((Array.range (1 * 2)).map ((Value.agg (tlC zTl)).cells[· % (Value.agg (tlC zTl)).cells.size]!)) [(0, .agg (tlC v))] = some (tlC v) := by kernel_rfl

/-- One comes behind. -/
theorem append_tl {o : Oper} {a : Act} {w : World} {K : Act → World → Prop} {Q : Exit → Act → World → Prop} {s x : Operand} {base G : Nat} {v : Value} {l : List Tl} (y : Tl)
    (ho : o.op = .call { callee := .builtin .append, args := #[s, x], argTypes := #[73, 73] }) (hs : a.eval s = v) (hx : a.eval x = .slice (some ⟨G, 0, none⟩) 1 1)
    (hO : OwnTl w base v l) (hG : Blk w G 80 (tlC y)) (hlen : l.length ≤ 100000) (hbase : base ≤ w.heap.size)
    (h : ∀ v' w', OwnTl w' base v' (l ++ [y]) → Below base w w' → w.grownBy w' v.ownBlock → K (a.put o.dst v') w') : Oper.wp Tryz.prog o a w K Q := by
  obtain ⟨i0, hi, hz0, hz1, hz2⟩ := info_parts Tryz.tlParts
  have hnews : ∀ (j : Nat) u, (tlC y).toList[j]? = some u → w.cell? ((⟨G, 0, none⟩ : Addr).add j) = some u := fun j u hu => by
    rw [Addr.add_lit, Nat.zero_add]
    exact hG.cv j u (by simpa using hu)
  rcases hO with ⟨rfl, rfl⟩ | ⟨hne, g, cap, rfl, hown⟩
  · refine wp_append_lies w s x _ ho base 80 i0 (.agg (tlC zTl)) 2 24 Tryz.underlying73 hi hz0 hz1 hz2 rfl (by decide) (.slice none 0 0) 0 [] hs (World.ownsRow_nil w base _ 2) ⟨G, 0, none⟩ 1 1 (tlC y).toList hx rfl hnews (tlC_cells y) (by decide) (by unfold maxLen; omega) (by decide) hbase _ rfl ?_
    intro g cap w' hown hgrow hat hlt
    refine h _ _ (Or.inr ⟨by simp, g, cap, rfl, ?_⟩) ((Below.refl base w).grown hgrow hbase (fun q hq => by simp [Value.ownBlock] at hq)) hgrow
    rw [List.nil_append, tlR_one]
    exact hown
  · have hown' := hown
    refine wp_append_lies w s x _ ho base 80 i0 (.agg (tlC zTl)) 2 24 Tryz.underlying73 hi hz0 hz1 hz2 rfl (by decide) (.slice (some ⟨g, 0, none⟩) l.length cap) l.length (tlR l) hs hown ⟨G, 0, none⟩ 1 1 (tlC y).toList hx rfl hnews (tlC_cells y) (by decide) (by unfold maxLen; omega) (by omega) hbase _ rfl ?_
    intro g' cap' w' hown2 hgrow hat hlt
    obtain ⟨cur, hB, hge⟩ : ∃ cur, Blk w g 80 cur ∧ base ≤ g := by
      rcases hown'.2 with ⟨h1, -⟩ | ⟨g1, cap1, cur1, e1, e2, e3, -⟩
      · cases h1
      · cases e1
        exact ⟨cur1, e3, e2⟩
    refine h _ _ (Or.inr ⟨by simp, g', cap', by rw [List.length_append]; rfl, ?_⟩) ((Below.refl base w).grown hgrow hbase (fun q hq => by cases hq; exact hge)) hgrow
    rw [tlR_snoc, List.length_append]
    exact hown2

/-- Of one alone. -/
theorem slice_tl {o : Oper} {a : Act} {w : World} {K : Act → World → Prop} {Q : Exit → Act → World → Prop} {x : Operand} (y : Tl) (ho : o.op = .buildSlice 73 1 #[(0, x)]) (hx : a.eval x = .agg (tlC y))
    (h : ∀ w1, Blk w1 w.heap.size 80 (tlC y) → Below w.heap.size w w1 → w.heap.size < w1.heap.size → K (a.put o.dst (.slice (some ⟨w.heap.size, 0, none⟩) 1 1)) w1) : Oper.wp Tryz.prog o a w K Q := by
  obtain ⟨i0, hi, hz0, hz1, hz2⟩ := info_parts Tryz.tlParts
  refine wp_buildSlice 73 80 1 _ ho (tlC y) i0 (.agg (tlC zTl)) Tryz.underlying73 hi hz0 (by rw [hz1]; decide) (by rw [hz1]; decide) (by rw [hz1]; simp only [List.map_toArray, List.map_cons, List.map_nil, hx]; exact fill_tl y) (h _ (Blk.new w _ _) ((Below.refl _ _).alloc (Nat.le_refl _) _) (Blk.new w _ _).lt)

theorem sliceL_tl {ops : Array Oper} {rest : List Oper} {o : Oper} {a : Act} {w : World} {Q : Exit → Act → World → Prop} {x : Operand} (y : Tl) (hg : o.guard = none) (ho : o.op = .buildSlice 73 1 #[(0, x)]) (hx : a.eval x = .agg (tlC y))
    (h : ∀ w1, Blk w1 w.heap.size 80 (tlC y) → Below w.heap.size w w1 → w.heap.size < w1.heap.size → wpList Tryz.prog ops Q rest (a.put o.dst (.slice (some ⟨w.heap.size, 0, none⟩) 1 1)) w1) : wpList Tryz.prog ops Q (o :: rest) a w :=
  wpList_plain hg fun _ hK => slice_tl y ho hx fun w1 hB hb hs => hK _ _ (h w1 hB hb hs)

theorem appendL_tl {ops : Array Oper} {rest : List Oper} {o : Oper} {a : Act} {w : World} {Q : Exit → Act → World → Prop} {s x : Operand} {base G : Nat} {v : Value} {l : List Tl} (y : Tl) (hg : o.guard = none)
    (ho : o.op = .call { callee := .builtin .append, args := #[s, x], argTypes := #[73, 73] }) (hs : a.eval s = v) (hx : a.eval x = .slice (some ⟨G, 0, none⟩) 1 1)
    (hO : OwnTl w base v l) (hG : Blk w G 80 (tlC y)) (hlen : l.length ≤ 100000) (hbase : base ≤ w.heap.size)
    (h : ∀ v' w', OwnTl w' base v' (l ++ [y]) → Below base w w' → w.grownBy w' v.ownBlock → wpList Tryz.prog ops Q rest (a.put o.dst v') w') : wpList Tryz.prog ops Q (o :: rest) a w :=
  wpList_plain hg fun _ hK => append_tl y ho hs hx hO hG hlen hbase fun v' w' h1 h2 h3 => hK _ _ (h v' w' h1 h2 h3)

end Go.Proofs.YtocgnbbnaamjjaaGreatDoor

namespace Go.Proofs.YtocgnbbnaamjjaaGreatDoor
open Go.RowKit
attribute [local go_sem ↓] Go.wp_at_zero Go.wp_at_succ
set_option linter.unusedSimpArgs false
set_option linter.unusedVariables false
set_option maxRecDepth 100000

/-- A cell that holds a list of records of its own. -/
def AcTl (w : World) (B : Nat) (l : List Tl) : Prop := ∃ a c, Blk w B 73 #[.slice a l.length c] ∧ OwnTl w (B + 1) (.slice a l.length c) l

theorem AcTl.kept {w w' : World} {B : Nat} {l : List Tl} (h : AcTl w B l) (hb : Below w.heap.size w w') : AcTl w' B l := by
  obtain ⟨a, c, h1, h2⟩ := h
  exact ⟨a, c, h1.kept hb, h2.kept hb⟩

theorem AcTl.drew {w : World} {B : Nat} {l : List Tl} (h : AcTl w B l) : AcTl w.drew B l := h

/-- Blocks of other types are as they were. -/
def KeepL (w w' : World) : Prop := ∀ X T C, Blk w X T C → T ≠ 80 → T ≠ 73 → Blk w' X T C

theorem KeepL.of {w w' : World} (h : Below w.heap.size w w') : KeepL w w' := fun _ _ _ hB _ _ => hB.kept h

theorem KeepL.trans {w w' w'' : World} (h : KeepL w w') (h' : KeepL w' w'') : KeepL w w'' := fun X T C hB h1 h2 => h' X T C (h X T C hB h1 h2) h1 h2

theorem blk_type {w : World} {X : Nat} {T T' : TypeId} {C D : Array Value} (h : Blk w X T C) (h' : Blk w X T' D) : T = T' := by
  have h1 : w.heap[X]? = some (.cells C T (0, 0)) := h
  have h2 : w.heap[X]? = some (.cells D T' (0, 0)) := h'
  rw [h1] at h2
  injection h2 with h2
  injection h2

theorem KeepL.row {w w' : World} {B : Nat} {v : Value} {l : List Tl} (hO : OwnTl w B v l) (hg : w.grownBy w' v.ownBlock) : KeepL w w' := fun X T C hX h1 h2 => by
  refine hX.grown hg ?_
  rcases hO.blk with e | ⟨g, D, e, _, hg2⟩
  · rw [e]
    intro q
    cases q
  · rw [e]
    intro q
    cases q
    exact h1 (blk_type hX hg2)

theorem KeepL.cell {w w' : World} {B : Nat} {D : Array Value} (hB : Blk w B 73 D) (hg : w.grownBy w' (some B)) : KeepL w w' := fun X T C hX h1 h2 => by
  refine hX.grown hg ?_
  intro q
  cases q
  exact h2 (blk_type hX hB)

def kTl (k : Int) (l : List ByteArray) : List Tl := l.map fun s => ⟨k, s⟩

theorem kTl_take (k : Int) (l : List ByteArray) (i : Nat) (hi : i < l.length) : kTl k (l.take (i + 1)) = kTl k (l.take i) ++ [⟨k, l[i]⟩] := by
  unfold kTl
  rw [List.take_add_one, List.getElem?_eq_getElem hi, List.map_append]
  rfl







end Go.Proofs.YtocgnbbnaamjjaaGreatDoor

