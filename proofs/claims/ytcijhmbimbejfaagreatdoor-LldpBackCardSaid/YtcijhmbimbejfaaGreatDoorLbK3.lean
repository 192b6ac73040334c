/- Texts one behind the other. DERIVED: THE SHELF's CONTRACTS AT THIS DUMP, IN PLAIN WORDS (tools/lay-plain.mjs out of 'TryzShelf.lean', which tools/lay-shelf.mjs wrote): THE SAME DECLARATIONS UNDER THE SAME NAMES: 'import', 'namespace', 'open', 'def', 'theorem' AND NOTHING ELSE: no command of the shelf's: FOR A HAND-IN. Each laying: the table of numbers ('.._ren') and one theorem, a field a fact of the dump's own or the kernel's comparison; each contract: ONE APPLICATION. strings.Builder at this program: its check, and WriteString. strings.Builder: what a text written leaves as it was. A Builder elsewhere is as it was. strings.Builder: Grow at one that is new; strings.Join with nothing between. strings.Join of six texts, nothing between them. wire.Must of a number that fits. lldp.nameText, lldp.manageText. Records as values: cells, ==, rows of one's own. lldp.records: its function add. -/
import Derived.Test.YtcijhmbimbejfaaGreatDoorLbK1
import Derived.Shelf.Strings.Builder1
import Derived.Shelf.Strings.Builder2
import Derived.Shelf.Strings.Trim
import Derived.Shelf.Small.Utf8
import Derived.Shelf.Small.Strs
import Derived.Shelf.Strings.Search1
import Derived.Shelf.Strings.Runes
import Derived.Shelf.Strings.AsciiSet
import Derived.Shelf.Unicode.DecodeSlow
import Derived.Test.YtcijhmbimbejfaaGreatDoorProg
import Derived.WalkKit
import Derived.Below
import Derived.Lib.Hide
import Derived.OrdersHeld
import Derived.WalkSpells
import Derived.WalkLawsBesides
import Derived.Great.BuildSlice
import Derived.Lib.SmallJoins
import Derived.Deep.AppendLies
import Derived.Deep.RegionHeld3
namespace Go.Proofs
open Go.Shelf
def Tryz.lays169_ren : Go.Shelf.Ren := ⟨fun | 169 => 71 | n => n, fun | 70 => 156 | 9 => 9 | 0 => 0 | 72 => 159 | 37 => 157 | 127 => 201 | 3 => 3 | 5 => 5 | n => n, fun | n => n⟩
theorem Tryz.lays169 : Go.Proofs.Lays.n169 Tryz.prog Tryz.lays169_ren := {
  mixed := by kernel_rfl
  f169 := Tryz.func71.trans (congrArg some (by kernel_rfl))
  t0 := Tryz.underlying0
  a0 := Tryz.isAgg0
  z0 := Tryz.sizeOf0
  v0 := Tryz.zeroValue0
  t3 := Tryz.underlying3
  a3 := Tryz.isAgg3
  z3 := Tryz.sizeOf3
  v3 := Tryz.zeroValue3
  t9 := Tryz.underlying9
  a9 := Tryz.isAgg9
  z9 := Tryz.sizeOf9
  v9 := Tryz.zeroValue9
  t37 := Tryz.underlying157
  a37 := Tryz.isAgg157
  z37 := Tryz.sizeOf157
  v37 := Tryz.zeroValue157
  t70 := Tryz.underlying156
  a70 := Tryz.isAgg156
  z70 := Tryz.sizeOf156
  v70 := Tryz.zeroValue156
  t72 := Tryz.underlying159
  a72 := Tryz.isAgg159
  z72 := Tryz.sizeOf159
  v72 := Tryz.zeroValue159
  t127 := Tryz.underlying201
  a127 := Tryz.isAgg201
  z127 := Tryz.sizeOf201
  v127 := Tryz.zeroValue201 }
theorem Tryz.Builder_Extra_169 : Builder.Extra Tryz.prog Tryz.lays169_ren := {
  sizeBuilder := by kernel_rfl
  liesBuilder := by kernel_rfl
  t5 := Tryz.underlying5
  a5 := Tryz.isAgg5
  z5 := Tryz.sizeOf5
  v5 := Tryz.zeroValue5
  infoByte := by kernel_rfl
  cellsByte := by kernel_rfl
  sizeByte := by kernel_rfl
  neB5 := by decide }
open Go.RowKit in
/-- (*strings.Builder).String: "String returns the accumulated string.": OF A BUILDER THAT HOLDS AT LEAST ONE BYTE. ✋ THE MODEL FREEZES THOSE BYTES IN THE BUFFER (unsafe.String): a later write INTO them ends the model's run without an answer; a later append BEHIND them goes on. The statement's order of evaluation is drawn: one draw. (LAID: no walk: one application.) -/
theorem Tryz.Builder_String (B b : Nat) (l : List UInt8) (w : World) (h : Lib.IsBuilder 159 5 B b (Lib.byteCells l) w) (h0 : l ≠ []) :
    Calls Tryz.prog 71 #[.pointer (some ⟨b, 0, none⟩)] w fun e w' => e = .returned (.string ⟨l.toArray⟩) ∧ Below B w w' := Any.Builder_String Tryz.lays169 Tryz.Builder_Extra_169 B b l w h h0
open Go.RowKit in
/-- (*strings.Builder).String OF A BUILDER THAT HOLDS NO BYTE: the empty string. (Its buffer is nil, or a row of which it has taken nothing yet; where that row has NO capacity the model lays one new block for unsafe.SliceData's 'some address'.) One draw. (LAID: no walk: one application.) -/
theorem Tryz.Builder_String_empty (B b : Nat) (w : World) (h : Lib.IsBuilder 159 5 B b [] w) (hBw : B ≤ w.heap.size) :
    Calls Tryz.prog 71 #[.pointer (some ⟨b, 0, none⟩)] w fun e w' => e = .returned (.string ⟨#[]⟩) ∧ Below B w w' := Any.Builder_String_empty Tryz.lays169 Tryz.Builder_Extra_169 B b w h hBw
open Go.RowKit in
/-- (*strings.Builder).String: "String returns the accumulated string.": WHATEVER THE BUILDER HOLDS. (LAID: no walk: one application.) -/
theorem Tryz.Builder_String_any (B b : Nat) (l : List UInt8) (w : World) (h : Lib.IsBuilder 159 5 B b (Lib.byteCells l) w) (hBw : B ≤ w.heap.size) :
    Calls Tryz.prog 71 #[.pointer (some ⟨b, 0, none⟩)] w fun e w' => e = .returned (.string ⟨l.toArray⟩) ∧ Below B w w' := Any.Builder_String_any Tryz.lays169 Tryz.Builder_Extra_169 B b l w h hBw
def Tryz.lays241_ren : Go.Shelf.Ren := ⟨fun | 241 => 122 | 277 => 125 | n => n, fun | 70 => 156 | 3 => 3 | 0 => 0 | 72 => 159 | 37 => 157 | 5 => 5 | n => n, fun | n => n⟩
theorem Tryz.lays241 : Go.Proofs.Lays.n241 Tryz.prog Tryz.lays241_ren := {
  mixed := by kernel_rfl
  f241 := Tryz.func122.trans (congrArg some (by kernel_rfl))
  f277 := Tryz.func125.trans (congrArg some (by kernel_rfl))
  t0 := Tryz.underlying0
  a0 := Tryz.isAgg0
  z0 := Tryz.sizeOf0
  v0 := Tryz.zeroValue0
  t3 := Tryz.underlying3
  a3 := Tryz.isAgg3
  z3 := Tryz.sizeOf3
  v3 := Tryz.zeroValue3
  t37 := Tryz.underlying157
  a37 := Tryz.isAgg157
  z37 := Tryz.sizeOf157
  v37 := Tryz.zeroValue157
  t70 := Tryz.underlying156
  a70 := Tryz.isAgg156
  z70 := Tryz.sizeOf156
  v70 := Tryz.zeroValue156
  t72 := Tryz.underlying159
  a72 := Tryz.isAgg159
  z72 := Tryz.sizeOf159
  v72 := Tryz.zeroValue159 }
theorem Tryz.Builder_Extra_241 : Builder.Extra Tryz.prog Tryz.lays241_ren := {
  sizeBuilder := by kernel_rfl
  liesBuilder := by kernel_rfl
  t5 := Tryz.underlying5
  a5 := Tryz.isAgg5
  z5 := Tryz.sizeOf5
  v5 := Tryz.zeroValue5
  infoByte := by kernel_rfl
  cellsByte := by kernel_rfl
  sizeByte := by kernel_rfl
  neB5 := by decide }
open Go.RowKit in
/-- (*strings.Builder).grow (no doc but "grow copies the buffer to a new, larger buffer so that there are at least n bytes of capacity beyond len(b.buf)."): AT A BUILDER WITHOUT A BUFFER: a new row of whatever bytes for its buffer, none of them its own yet. Three draws. (LAID: no walk: one application.) -/
theorem Tryz.Builder_grow_fresh (B b n : Nat) (w : World) (hB : B ≤ b) (hbk : w.heap[b]? = some (.cells #[.pointer (some ⟨b, 0, none⟩), .slice none 0 0] 159 (0, 0))) (hBw : B ≤ w.heap.size) (hn : n ≤ 281474976710656) :
    Calls Tryz.prog 122 #[.pointer (some ⟨b, 0, none⟩), .int .i64 n] w fun e w' => e = .returned (.tuple #[]) ∧ (Lib.BuilderAt 159 5 B b (.pointer (some ⟨b, 0, none⟩)) [] w' ∧ Below B w w') := Any.Builder_grow_fresh Tryz.lays241 Tryz.Builder_Extra_241 B b n w hB hbk hBw hn
def Tryz.lays165_ren : Go.Shelf.Ren := ⟨fun | 165 => 116 | 240 => 99 | 241 => 122 | 276 => 115 | 277 => 125 | n => n, fun | 70 => 156 | 3 => 3 | 0 => 0 | 4 => 4 | 9 => 9 | 20 => 20 | 72 => 159 | 37 => 157 | 164 => 170 | 5 => 5 | n => n, fun | n => n⟩
theorem Tryz.lays165 : Go.Proofs.Lays.n165 Tryz.prog Tryz.lays165_ren := {
  mixed := by kernel_rfl
  f165 := Tryz.func116.trans (congrArg some (by kernel_rfl))
  f240 := Tryz.func99.trans (congrArg some (by kernel_rfl))
  f241 := Tryz.func122.trans (congrArg some (by kernel_rfl))
  f276 := Tryz.func115.trans (congrArg some (by kernel_rfl))
  f277 := Tryz.func125.trans (congrArg some (by kernel_rfl))
  t0 := Tryz.underlying0
  a0 := Tryz.isAgg0
  z0 := Tryz.sizeOf0
  v0 := Tryz.zeroValue0
  t3 := Tryz.underlying3
  a3 := Tryz.isAgg3
  z3 := Tryz.sizeOf3
  v3 := Tryz.zeroValue3
  t4 := Tryz.underlying4
  a4 := Tryz.isAgg4
  z4 := Tryz.sizeOf4
  v4 := Tryz.zeroValue4
  t9 := Tryz.underlying9
  a9 := Tryz.isAgg9
  z9 := Tryz.sizeOf9
  v9 := Tryz.zeroValue9
  t20 := Tryz.underlying20
  a20 := Tryz.isAgg20
  z20 := Tryz.sizeOf20
  v20 := Tryz.zeroValue20
  t37 := Tryz.underlying157
  a37 := Tryz.isAgg157
  z37 := Tryz.sizeOf157
  v37 := Tryz.zeroValue157
  t70 := Tryz.underlying156
  a70 := Tryz.isAgg156
  z70 := Tryz.sizeOf156
  v70 := Tryz.zeroValue156
  t72 := Tryz.underlying159
  a72 := Tryz.isAgg159
  z72 := Tryz.sizeOf159
  v72 := Tryz.zeroValue159
  t164 := Tryz.underlying170
  a164 := Tryz.isAgg170
  z164 := Tryz.sizeOf170
  v164 := Tryz.zeroValue170 }
theorem Tryz.Builder_Extra_165 : Builder.Extra Tryz.prog Tryz.lays165_ren := {
  sizeBuilder := by kernel_rfl
  liesBuilder := by kernel_rfl
  t5 := Tryz.underlying5
  a5 := Tryz.isAgg5
  z5 := Tryz.sizeOf5
  v5 := Tryz.zeroValue5
  infoByte := by kernel_rfl
  cellsByte := by kernel_rfl
  sizeByte := by kernel_rfl
  neB5 := by decide }
open Go.RowKit in
/-- (*strings.Builder).Grow AT A BUILDER THAT HAS NOT BEEN WRITTEN ('var b strings.Builder; b.Grow(n)'): "Grow grows b's capacity, if necessary, to guarantee space for another n bytes.": it holds no byte behind it as before it. (LAID: no walk: one application.) -/
theorem Tryz.Builder_Grow_fresh (B b n : Nat) (w : World) (hB : B ≤ b) (hbk : w.heap[b]? = some (.cells #[.pointer none, .slice none 0 0] 159 (0, 0))) (hBw : B ≤ w.heap.size) (hn : n ≤ 281474976710656) :
    Calls Tryz.prog 116 #[.pointer (some ⟨b, 0, none⟩), .int .i64 n] w fun e w' => e = .returned (.tuple #[]) ∧ (Lib.BuilderAt 159 5 B b (.pointer (some ⟨b, 0, none⟩)) [] w' ∧ Below B w w') := Any.Builder_Grow_fresh Tryz.lays165 Tryz.Builder_Extra_165 B b n w hB hbk hBw hn
def Tryz.lays231_ren : Go.Shelf.Ren := ⟨fun | 231 => 111 | n => n, fun | 9 => 9 | 5 => 5 | 3 => 3 | 4 => 4 | n => n, fun | n => n⟩
theorem Tryz.lays231 : Go.Proofs.Lays.n231 Tryz.prog Tryz.lays231_ren := {
  mixed := by kernel_rfl
  f231 := Tryz.func111.trans (congrArg some (by kernel_rfl))
  t3 := Tryz.underlying3
  a3 := Tryz.isAgg3
  z3 := Tryz.sizeOf3
  v3 := Tryz.zeroValue3
  t4 := Tryz.underlying4
  a4 := Tryz.isAgg4
  z4 := Tryz.sizeOf4
  v4 := Tryz.zeroValue4
  t5 := Tryz.underlying5
  a5 := Tryz.isAgg5
  z5 := Tryz.sizeOf5
  v5 := Tryz.zeroValue5
  t9 := Tryz.underlying9
  a9 := Tryz.isAgg9
  z9 := Tryz.sizeOf9
  v9 := Tryz.zeroValue9 }
open Go.RowKit in
/-- strings.trimLeftByte (no doc; what TrimLeft and Trim call at a cutset of one ASCII byte): the leading bytes that are c are cut off. The world is as it was. (LAID: no walk: one application.) -/
theorem Tryz.strings_trimLeftByte (s : ByteArray) (c : UInt8) (w : World) :
    Calls Tryz.prog 111 #[.string s, .int .u8 c.toNat] w fun e w' => e = .returned (.string ⟨(Lib.trimLeftB s.data.toList c).toArray⟩) ∧ w' = w := Any.strings_trimLeftByte Tryz.lays231 s c w
def Tryz.lays161_ren : Go.Shelf.Ren := ⟨fun | 161 => 89 | 231 => 111 | 227 => 112 | 233 => 113 | 235 => 114 | 228 => 119 | 197 => 120 | 151 => 121 | 260 => 123 | 152 => 124 | 137 => 126 | 119 => 127 | 224 => 128 | 225 => 129 | 217 => 130 | 266 => 131 | n => n, fun | 9 => 9 | 4 => 4 | 3 => 3 | 5 => 5 | 117 => 222 | 116 => 221 | 0 => 0 | 124 => 225 | 105 => 231 | 21 => 21 | 119 => 236 | 46 => 218 | 139 => 239 | 138 => 238 | n => n, fun | 3 => 1 | 4 => 2 | n => n⟩
theorem Tryz.lays161 : Go.Proofs.Lays.n161 Tryz.prog Tryz.lays161_ren := {
  mixed := by kernel_rfl
  f119 := Tryz.func127.trans (congrArg some (by kernel_rfl))
  f137 := Tryz.func126.trans (congrArg some (by kernel_rfl))
  f151 := Tryz.func121.trans (congrArg some (by kernel_rfl))
  f152 := Tryz.func124.trans (congrArg some (by kernel_rfl))
  f161 := Tryz.func89.trans (congrArg some (by kernel_rfl))
  f197 := Tryz.func120.trans (congrArg some (by kernel_rfl))
  f217 := Tryz.func130.trans (congrArg some (by kernel_rfl))
  f224 := Tryz.func128.trans (congrArg some (by kernel_rfl))
  f225 := Tryz.func129.trans (congrArg some (by kernel_rfl))
  f227 := Tryz.func112.trans (congrArg some (by kernel_rfl))
  f228 := Tryz.func119.trans (congrArg some (by kernel_rfl))
  f231 := Tryz.func111.trans (congrArg some (by kernel_rfl))
  f233 := Tryz.func113.trans (congrArg some (by kernel_rfl))
  f235 := Tryz.func114.trans (congrArg some (by kernel_rfl))
  f260 := Tryz.func123.trans (congrArg some (by kernel_rfl))
  f266 := Tryz.func131.trans (congrArg some (by kernel_rfl))
  t0 := Tryz.underlying0
  a0 := Tryz.isAgg0
  z0 := Tryz.sizeOf0
  v0 := Tryz.zeroValue0
  t3 := Tryz.underlying3
  a3 := Tryz.isAgg3
  z3 := Tryz.sizeOf3
  v3 := Tryz.zeroValue3
  t4 := Tryz.underlying4
  a4 := Tryz.isAgg4
  z4 := Tryz.sizeOf4
  v4 := Tryz.zeroValue4
  t5 := Tryz.underlying5
  a5 := Tryz.isAgg5
  z5 := Tryz.sizeOf5
  v5 := Tryz.zeroValue5
  t9 := Tryz.underlying9
  a9 := Tryz.isAgg9
  z9 := Tryz.sizeOf9
  v9 := Tryz.zeroValue9
  t21 := Tryz.underlying21
  a21 := Tryz.isAgg21
  z21 := Tryz.sizeOf21
  v21 := Tryz.zeroValue21
  t46 := Tryz.underlying218
  a46 := Tryz.isAgg218
  z46 := Tryz.sizeOf218
  v46 := Tryz.zeroValue218
  t105 := Tryz.underlying231
  a105 := Tryz.isAgg231
  z105 := Tryz.sizeOf231
  v105 := Tryz.zeroValue231
  t116 := Tryz.underlying221
  a116 := Tryz.isAgg221
  z116 := Tryz.sizeOf221
  t117 := Tryz.underlying222
  a117 := Tryz.isAgg222
  z117 := Tryz.sizeOf222
  v117 := Tryz.zeroValue222
  t119 := Tryz.underlying236
  a119 := Tryz.isAgg236
  z119 := Tryz.sizeOf236
  t124 := Tryz.underlying225
  a124 := Tryz.isAgg225
  z124 := Tryz.sizeOf225
  v124 := Tryz.zeroValue225
  t138 := Tryz.underlying238
  a138 := Tryz.isAgg238
  z138 := Tryz.sizeOf238
  v138 := Tryz.zeroValue238
  t139 := Tryz.underlying239
  a139 := Tryz.isAgg239
  z139 := Tryz.sizeOf239
  v139 := Tryz.zeroValue239
  g3 := by kernel_rfl
  g4 := by kernel_rfl }
open Go.RowKit in
/-- strings.TrimLeft: "TrimLeft returns a slice of the string s with all leading Unicode code points contained in cutset removed.": AT A cutset OF ONE ASCII BYTE. The world is as it was. (LAID: no walk: one application.) -/
theorem Tryz.strings_TrimLeft_one (s : ByteArray) (c : UInt8) (hc : c.toNat < 128) (w : World) :
    Calls Tryz.prog 89 #[.string s, .string ⟨#[c]⟩] w fun e w' => e = .returned (.string ⟨(Lib.trimLeftB s.data.toList c).toArray⟩) ∧ w' = w := Any.strings_TrimLeft_one Tryz.lays161 s c hc w
def Tryz.lays119_ren : Go.Shelf.Ren := ⟨fun | 119 => 127 | n => n, fun | 21 => 21 | 4 => 4 | n => n, fun | n => n⟩
theorem Tryz.lays119 : Go.Proofs.Lays.n119 Tryz.prog Tryz.lays119_ren := {
  mixed := by kernel_rfl
  f119 := Tryz.func127.trans (congrArg some (by kernel_rfl))
  t4 := Tryz.underlying4
  a4 := Tryz.isAgg4
  z4 := Tryz.sizeOf4
  v4 := Tryz.zeroValue4
  t21 := Tryz.underlying21
  a21 := Tryz.isAgg21
  z21 := Tryz.sizeOf21
  v21 := Tryz.zeroValue21 }
/-- utf8.ValidRune: "ValidRune reports whether r can be legally encoded as UTF-8. Code points that are out of range or a surrogate half are illegal.": IT RETURNS 'Lib.validRune r'; the world is as it was. (LAID: no walk: one application.) -/
theorem Tryz.utf8_ValidRune (r : Int) (w : World) :
    Calls Tryz.prog 127 #[.int .i32 r] w fun e w' => e = .returned (.bool (Lib.validRune r)) ∧ w' = w := Any.utf8_ValidRune Tryz.lays119 r w
def Tryz.lays137_ren : Go.Shelf.Ren := ⟨fun | 137 => 126 | 217 => 130 | 266 => 131 | n => n, fun | 9 => 9 | 5 => 5 | 3 => 3 | n => n, fun | n => n⟩
theorem Tryz.lays137 : Go.Proofs.Lays.n137 Tryz.prog Tryz.lays137_ren := {
  mixed := by kernel_rfl
  f137 := Tryz.func126.trans (congrArg some (by kernel_rfl))
  f217 := Tryz.func130.trans (congrArg some (by kernel_rfl))
  f266 := Tryz.func131.trans (congrArg some (by kernel_rfl))
  t3 := Tryz.underlying3
  a3 := Tryz.isAgg3
  z3 := Tryz.sizeOf3
  v3 := Tryz.zeroValue3
  t5 := Tryz.underlying5
  a5 := Tryz.isAgg5
  z5 := Tryz.sizeOf5
  v5 := Tryz.zeroValue5
  t9 := Tryz.underlying9
  a9 := Tryz.isAgg9
  z9 := Tryz.sizeOf9
  v9 := Tryz.zeroValue9 }
open Go.RowKit in
/-- strings.IndexByte: "IndexByte returns the index of the first instance of c in s, or -1 if c is not present in s.": IT RETURNS 'Lib.indexByte s c'; the world is as it was. (LAID: no walk: one application.) -/
theorem Tryz.strings_IndexByte (s : ByteArray) (c : Int) (w : World) :
    Calls Tryz.prog 126 #[.string s, .int .u8 c] w fun e w' => e = .returned (.int .i64 (Lib.indexByte s.data.toList c.toNat.toUInt8)) ∧ w' = w := Any.strings_IndexByte Tryz.lays137 s c w
def Tryz.lays217_ren : Go.Shelf.Ren := ⟨fun | 217 => 130 | 266 => 131 | n => n, fun | 9 => 9 | 5 => 5 | 3 => 3 | n => n, fun | n => n⟩
theorem Tryz.lays217 : Go.Proofs.Lays.n217 Tryz.prog Tryz.lays217_ren := {
  mixed := by kernel_rfl
  f217 := Tryz.func130.trans (congrArg some (by kernel_rfl))
  f266 := Tryz.func131.trans (congrArg some (by kernel_rfl))
  t3 := Tryz.underlying3
  a3 := Tryz.isAgg3
  z3 := Tryz.sizeOf3
  v3 := Tryz.zeroValue3
  t5 := Tryz.underlying5
  a5 := Tryz.isAgg5
  z5 := Tryz.sizeOf5
  v5 := Tryz.zeroValue5
  t9 := Tryz.underlying9
  a9 := Tryz.isAgg9
  z9 := Tryz.sizeOf9
  v9 := Tryz.zeroValue9 }
open Go.RowKit Go.Lib in
/-- internal/stringslite.IndexByte (what strings.IndexByte calls): IT RETURNS 'Lib.indexByte s c'; the world is as it was. (LAID: no walk: one application.) -/
theorem Tryz.stringslite_IndexByte (s : ByteArray) (c : Int) (w : World) :
    Calls Tryz.prog 130 #[.string s, .int .u8 c] w fun e w' => e = .returned (.int .i64 (Lib.indexByte s.data.toList c.toNat.toUInt8)) ∧ w' = w := Any.stringslite_IndexByte Tryz.lays217 s c w
def Tryz.lays224_ren : Go.Shelf.Ren := ⟨fun | 224 => 128 | n => n, fun | 3 => 3 | n => n, fun | n => n⟩
theorem Tryz.lays224 : Go.Proofs.Lays.n224 Tryz.prog Tryz.lays224_ren := {
  mixed := by kernel_rfl
  f224 := Tryz.func128.trans (congrArg some (by kernel_rfl))
  t3 := Tryz.underlying3
  a3 := Tryz.isAgg3
  z3 := Tryz.sizeOf3
  v3 := Tryz.zeroValue3 }
open Go.RowKit Go.Lib in
/-- internal/bytealg.Cutover: "Cutover reports the number of failures of IndexByte we should tolerate before switching over to Index. n is the number of bytes processed so far.": on amd64: (n + 16) / 8. (LAID: no walk: one application.) -/
theorem Tryz.bytealg_Cutover (n : Int) (h0 : 0 ≤ n) (h1 : n < 4611686018427387904) (w : World) :
    Calls Tryz.prog 128 #[.int .i64 n] w fun e w' => e = .returned (.int .i64 ((n + 16) / 8)) ∧ w' = w := Any.bytealg_Cutover Tryz.lays224 n h0 h1 w
def Tryz.lays152_ren : Go.Shelf.Ren := ⟨fun | 152 => 124 | 137 => 126 | 119 => 127 | 224 => 128 | 225 => 129 | 217 => 130 | 266 => 131 | n => n, fun | 9 => 9 | 21 => 21 | 3 => 3 | 4 => 4 | 5 => 5 | 0 => 0 | 46 => 218 | n => n, fun | n => n⟩
theorem Tryz.lays152 : Go.Proofs.Lays.n152 Tryz.prog Tryz.lays152_ren := {
  mixed := by kernel_rfl
  f119 := Tryz.func127.trans (congrArg some (by kernel_rfl))
  f137 := Tryz.func126.trans (congrArg some (by kernel_rfl))
  f152 := Tryz.func124.trans (congrArg some (by kernel_rfl))
  f217 := Tryz.func130.trans (congrArg some (by kernel_rfl))
  f224 := Tryz.func128.trans (congrArg some (by kernel_rfl))
  f225 := Tryz.func129.trans (congrArg some (by kernel_rfl))
  f266 := Tryz.func131.trans (congrArg some (by kernel_rfl))
  t0 := Tryz.underlying0
  a0 := Tryz.isAgg0
  z0 := Tryz.sizeOf0
  v0 := Tryz.zeroValue0
  t3 := Tryz.underlying3
  a3 := Tryz.isAgg3
  z3 := Tryz.sizeOf3
  v3 := Tryz.zeroValue3
  t4 := Tryz.underlying4
  a4 := Tryz.isAgg4
  z4 := Tryz.sizeOf4
  v4 := Tryz.zeroValue4
  t5 := Tryz.underlying5
  a5 := Tryz.isAgg5
  z5 := Tryz.sizeOf5
  v5 := Tryz.zeroValue5
  t9 := Tryz.underlying9
  a9 := Tryz.isAgg9
  z9 := Tryz.sizeOf9
  v9 := Tryz.zeroValue9
  t21 := Tryz.underlying21
  a21 := Tryz.isAgg21
  z21 := Tryz.sizeOf21
  v21 := Tryz.zeroValue21
  t46 := Tryz.underlying218
  a46 := Tryz.isAgg218
  z46 := Tryz.sizeOf218
  v46 := Tryz.zeroValue218 }
open Go.RowKit Go.Lib in
theorem Tryz.strings_IndexRune_ascii (s : ByteArray) (r : Int) (w : World) (h0 : 0 ≤ r) (h1 : r < 128) :
    Calls Tryz.prog 124 #[.string s, .int .i32 r] w fun e w' => e = .returned (.int .i64 (Lib.indexByte s.data.toList r.toNat.toUInt8)) ∧ w' = w := Any.strings_IndexRune_ascii Tryz.lays152 s r w h0 h1
def Tryz.lays151_ren : Go.Shelf.Ren := ⟨fun | 151 => 121 | 152 => 124 | 137 => 126 | 119 => 127 | 224 => 128 | 225 => 129 | 217 => 130 | 266 => 131 | n => n, fun | 9 => 9 | 21 => 21 | 4 => 4 | 3 => 3 | 5 => 5 | 0 => 0 | 46 => 218 | n => n, fun | n => n⟩
theorem Tryz.lays151 : Go.Proofs.Lays.n151 Tryz.prog Tryz.lays151_ren := {
  mixed := by kernel_rfl
  f119 := Tryz.func127.trans (congrArg some (by kernel_rfl))
  f137 := Tryz.func126.trans (congrArg some (by kernel_rfl))
  f151 := Tryz.func121.trans (congrArg some (by kernel_rfl))
  f152 := Tryz.func124.trans (congrArg some (by kernel_rfl))
  f217 := Tryz.func130.trans (congrArg some (by kernel_rfl))
  f224 := Tryz.func128.trans (congrArg some (by kernel_rfl))
  f225 := Tryz.func129.trans (congrArg some (by kernel_rfl))
  f266 := Tryz.func131.trans (congrArg some (by kernel_rfl))
  t0 := Tryz.underlying0
  a0 := Tryz.isAgg0
  z0 := Tryz.sizeOf0
  v0 := Tryz.zeroValue0
  t3 := Tryz.underlying3
  a3 := Tryz.isAgg3
  z3 := Tryz.sizeOf3
  v3 := Tryz.zeroValue3
  t4 := Tryz.underlying4
  a4 := Tryz.isAgg4
  z4 := Tryz.sizeOf4
  v4 := Tryz.zeroValue4
  t5 := Tryz.underlying5
  a5 := Tryz.isAgg5
  z5 := Tryz.sizeOf5
  v5 := Tryz.zeroValue5
  t9 := Tryz.underlying9
  a9 := Tryz.isAgg9
  z9 := Tryz.sizeOf9
  v9 := Tryz.zeroValue9
  t21 := Tryz.underlying21
  a21 := Tryz.isAgg21
  z21 := Tryz.sizeOf21
  v21 := Tryz.zeroValue21
  t46 := Tryz.underlying218
  a46 := Tryz.isAgg218
  z46 := Tryz.sizeOf218
  v46 := Tryz.zeroValue218 }
open Go.RowKit Go.Lib in
theorem Tryz.strings_ContainsRune_ascii (s : ByteArray) (r : Int) (w : World) (h0 : 0 ≤ r) (h1 : r < 128) :
    Calls Tryz.prog 121 #[.string s, .int .i32 r] w fun e w' => e = .returned (.bool (decide (0 ≤ Lib.indexByte s.data.toList r.toNat.toUInt8))) ∧ w' = w := Any.strings_ContainsRune_ascii Tryz.lays151 s r w h0 h1
def Tryz.lays227_ren : Go.Shelf.Ren := ⟨fun | 227 => 112 | n => n, fun | 9 => 9 | 116 => 221 | 4 => 4 | 0 => 0 | 3 => 3 | 5 => 5 | n => n, fun | n => n⟩
theorem Tryz.lays227 : Go.Proofs.Lays.n227 Tryz.prog Tryz.lays227_ren := {
  mixed := by kernel_rfl
  f227 := Tryz.func112.trans (congrArg some (by kernel_rfl))
  t0 := Tryz.underlying0
  a0 := Tryz.isAgg0
  z0 := Tryz.sizeOf0
  v0 := Tryz.zeroValue0
  t3 := Tryz.underlying3
  a3 := Tryz.isAgg3
  z3 := Tryz.sizeOf3
  v3 := Tryz.zeroValue3
  t4 := Tryz.underlying4
  a4 := Tryz.isAgg4
  z4 := Tryz.sizeOf4
  v4 := Tryz.zeroValue4
  t5 := Tryz.underlying5
  a5 := Tryz.isAgg5
  z5 := Tryz.sizeOf5
  v5 := Tryz.zeroValue5
  t9 := Tryz.underlying9
  a9 := Tryz.isAgg9
  z9 := Tryz.sizeOf9
  v9 := Tryz.zeroValue9
  t116 := Tryz.underlying221
  a116 := Tryz.isAgg221
  z116 := Tryz.sizeOf221 }
open Go.RowKit Go.Lib in
theorem Tryz.strings_makeASCIISet (hv116 : ∀ w, (zeroValue 221).run Tryz.prog w = .ok (.agg (Array.replicate 256 (.bool false))) w) (chars : ByteArray) (w : World) (hs : chars.size < 4294967281) (hascii : ∀ (j : Nat) b, chars.data.toList[j]? = some b → b.toNat < 128) :
    Calls Tryz.prog 112 #[.string chars] w fun e w' => e = .returned (.tuple #[.agg (Lib.setCells chars.data.toList), .bool true]) ∧ w' = w.alloc (.cells (Lib.setCells chars.data.toList) 221) := Any.strings_makeASCIISet Tryz.lays227 hv116 (by kernel_rfl) chars w hs hascii
def Tryz.lays228_ren : Go.Shelf.Ren := ⟨fun | 228 => 119 | n => n, fun | 124 => 225 | 5 => 5 | 4 => 4 | 0 => 0 | 116 => 221 | n => n, fun | n => n⟩
theorem Tryz.lays228 : Go.Proofs.Lays.n228 Tryz.prog Tryz.lays228_ren := {
  mixed := by kernel_rfl
  f228 := Tryz.func119.trans (congrArg some (by kernel_rfl))
  t0 := Tryz.underlying0
  a0 := Tryz.isAgg0
  z0 := Tryz.sizeOf0
  v0 := Tryz.zeroValue0
  t4 := Tryz.underlying4
  a4 := Tryz.isAgg4
  z4 := Tryz.sizeOf4
  v4 := Tryz.zeroValue4
  t5 := Tryz.underlying5
  a5 := Tryz.isAgg5
  z5 := Tryz.sizeOf5
  v5 := Tryz.zeroValue5
  t116 := Tryz.underlying221
  a116 := Tryz.isAgg221
  z116 := Tryz.sizeOf221
  t124 := Tryz.underlying225
  a124 := Tryz.isAgg225
  z124 := Tryz.sizeOf225
  v124 := Tryz.zeroValue225 }
open Go.RowKit Go.Lib in
/-- '(as *asciiSet) contains(c)': 'as[c]': the set lies at block b, whole. (LAID: no walk: one application.) -/
theorem Tryz.asciiSet_contains (b : Nat) (x : UInt8) (v : Bool) (w : World) (hc : w.cell? ⟨b, x.toNat, none⟩ = some (.bool v)) :
    Calls Tryz.prog 119 #[.pointer (some ⟨b, 0, none⟩), .int .u8 x.toNat] w fun e w' => e = .returned (.bool v) ∧ w' = w := Any.asciiSet_contains Tryz.lays228 b x v w hc
def Tryz.lays260_ren : Go.Shelf.Ren := ⟨fun | 260 => 123 | n => n, fun | 9 => 9 | 21 => 21 | 3 => 3 | 4 => 4 | 5 => 5 | 119 => 236 | 0 => 0 | 46 => 218 | 139 => 239 | 138 => 238 | n => n, fun | 3 => 1 | 4 => 2 | n => n⟩
theorem Tryz.lays260 : Go.Proofs.Lays.n260 Tryz.prog Tryz.lays260_ren := {
  mixed := by kernel_rfl
  f260 := Tryz.func123.trans (congrArg some (by kernel_rfl))
  t0 := Tryz.underlying0
  a0 := Tryz.isAgg0
  z0 := Tryz.sizeOf0
  v0 := Tryz.zeroValue0
  t3 := Tryz.underlying3
  a3 := Tryz.isAgg3
  z3 := Tryz.sizeOf3
  v3 := Tryz.zeroValue3
  t4 := Tryz.underlying4
  a4 := Tryz.isAgg4
  z4 := Tryz.sizeOf4
  v4 := Tryz.zeroValue4
  t5 := Tryz.underlying5
  a5 := Tryz.isAgg5
  z5 := Tryz.sizeOf5
  v5 := Tryz.zeroValue5
  t9 := Tryz.underlying9
  a9 := Tryz.isAgg9
  z9 := Tryz.sizeOf9
  v9 := Tryz.zeroValue9
  t21 := Tryz.underlying21
  a21 := Tryz.isAgg21
  z21 := Tryz.sizeOf21
  v21 := Tryz.zeroValue21
  t46 := Tryz.underlying218
  a46 := Tryz.isAgg218
  z46 := Tryz.sizeOf218
  v46 := Tryz.zeroValue218
  t119 := Tryz.underlying236
  a119 := Tryz.isAgg236
  z119 := Tryz.sizeOf236
  t138 := Tryz.underlying238
  a138 := Tryz.isAgg238
  z138 := Tryz.sizeOf238
  v138 := Tryz.zeroValue238
  t139 := Tryz.underlying239
  a139 := Tryz.isAgg239
  z139 := Tryz.sizeOf239
  v139 := Tryz.zeroValue239
  g3 := by kernel_rfl
  g4 := by kernel_rfl }
open Go.RowKit Go.Lib in
theorem Tryz.utf8_decodeRuneInStringSlow (s : ByteArray) (w : World) (hT : Lib.Utf8Tabs 1 2 w) :
    Calls Tryz.prog 123 #[.string s] w fun e w' => e = .returned (.tuple #[.int .i32 (Lib.decodeGo s).1, .int .i64 (Lib.decodeGo s).2]) ∧ Below w.heap.size w w' := Any.utf8_decodeRuneInStringSlow Tryz.lays260 s w hT
end Go.Proofs

namespace Go.Proofs.YtcijhmbimbejfaaGreatDoor
open Go.RowKit
set_option linter.unusedVariables false
set_option maxRecDepth 100000

theorem Tryz.bdSize : (Tryz.prog.info? 159).map (·.size) = some 2 := by kernel_rfl
theorem Tryz.bdInfo : ∃ j, Tryz.prog.info? 159 = some j ∧ j.size = 2 := Option.map_eq_some_iff.1 Tryz.bdSize
theorem Tryz.byteInfo : (Tryz.prog.info? 5).map (fun i => (i.zero, i.size, i.bytes)) = some (some (.int .u8 0), 1, 1) := by kernel_rfl

theorem build_used (b : Nat) (w : World) (h0 : w.cell? ⟨b, 0, none⟩ = some (.pointer (some ⟨b, 0, none⟩))) :
    Calls Tryz.prog 99 #[.pointer (some ⟨b, 0, none⟩)] w fun e w' => e = .returned (.tuple #[]) ∧ w' = w := by
  obtain ⟨j, hj, _⟩ := Tryz.bdInfo
  go_enter Tryz.func99, Tryz.ntmps99
  go_wp2
  rw [Lib.run_neq_ptr_same w _ Tryz.underlying156 hj]
  go_wp2
  go_end0
  exact ⟨rfl, rfl⟩

theorem build_fresh (b : Nat) (w : World) (h0 : w.cell? ⟨b, 0, none⟩ = some (.pointer none)) (hsh : w.shape? b = some (159, 2)) (hfz : w.frozen? ⟨b, 0, none⟩ = false) :
    Calls Tryz.prog 99 #[.pointer (some ⟨b, 0, none⟩)] w fun e w' => e = .returned (.tuple #[]) ∧ w' = w.setCell ⟨b, 0, none⟩ (.pointer (some ⟨b, 0, none⟩)) := by
  obtain ⟨j, hj, hjs⟩ := Tryz.bdInfo
  have q1 := Lib.run_to_unsafe (P := Tryz.prog) w ⟨b, 0, none⟩ Tryz.underlying156 Tryz.underlying170 hj (by rw [hjs]; decide) hsh (Nat.zero_lt_succ 1)
  have q2 : ∀ v : Value, (callFunc 115 #[v]).run Tryz.prog w = .ok (.value v) w := fun v => by
    rw [run_callFunc_extern Tryz.func115 (by kernel_rfl) (by kernel_rfl) (by kernel_rfl) (e := Extern.AbiNoEscape.same) (by kernel_rfl), Lib.run_noEscape]
    rfl
  have q3 := Lib.run_from_unsafe (P := Tryz.prog) w ⟨b, 0, none⟩ Tryz.underlying170 Tryz.underlying156 hj hsh (by kernel_rfl)
  go_enter Tryz.func99, Tryz.ntmps99
  go_wp2
  go_end0
  exact ⟨rfl, rfl⟩

/-- copyCheck: behind it the builder holds its own address. -/
theorem build_check (B b : Nat) (bs : List Value) (w : World) (h : Lib.IsBuilder 159 5 B b bs w) :
    Calls Tryz.prog 99 #[.pointer (some ⟨b, 0, none⟩)] w fun e w' => e = .returned (.tuple #[]) ∧ (Lib.BuilderAt 159 5 B b (.pointer (some ⟨b, 0, none⟩)) bs w' ∧ Below B w w') := by
  rcases h with h | h
  · refine (build_fresh b w h.cell0 h.shape h.frozen0).mono ?_
    rintro e w' ⟨rfl, rfl⟩
    exact ⟨rfl, h.used _, (Below.refl B w).setCell (p := ⟨b, 0, none⟩) h.1 _⟩
  · refine (build_used b w h.cell0).mono ?_
    rintro e w' ⟨rfl, rfl⟩
    exact ⟨rfl, h, Below.refl B _⟩

set_option maxHeartbeats 1000000 in
/-- WriteString: the text's bytes come behind. -/
theorem build_write (B b : Nat) (bs : List Value) (s : ByteArray) (w : World) (h : Lib.IsBuilder 159 5 B b bs w) (hlen : bs.length + s.size ≤ 1000000) (hBw : B ≤ w.heap.size) :
    Calls Tryz.prog 68 #[.pointer (some ⟨b, 0, none⟩), .string s] w fun e w' => e = .returned (.tuple #[.int .i64 s.size, .nilIface]) ∧ (Lib.IsBuilder 159 5 B b (bs ++ Lib.strCells s) w' ∧ Below B w w') := by
  obtain ⟨i0, hi, hz0, hz1, hz2⟩ := info_parts Tryz.byteInfo
  go_enter Tryz.func68, Tryz.ntmps68
  go_wp2_with fail
  refine (build_check B b bs _ h).mono ?_
  rintro e w1 ⟨rfl, h1, hb1⟩
  obtain ⟨hB, v, hbk, hown, hne⟩ := h1
  have c0 : w1.cell? ⟨b, 0, none⟩ = some (.pointer (some ⟨b, 0, none⟩)) := by rw [Lib.cell_of_heap hbk]; rfl
  have c1 : w1.cell? ⟨b, 1, none⟩ = some v := by rw [Lib.cell_of_heap hbk]; rfl
  have hlt : b < w1.heap.size := (Array.getElem?_eq_some_iff.1 hbk).1
  go_wp2_with (at_builtin; refine Lib.wpList_append_own_string _ rfl _ _ 157 9 rfl B 5 i0 Tryz.underlying157 Tryz.underlying9 hi hz0 hz1 hz2 _ _ _ rfl hown s rfl ?c3 ?c4 ?c5 ?_)
  case c3 => unfold maxLen; omega
  case c4 => omega
  case c5 => have := hb1.size; omega
  intro v' w2 hown' hgrow _
  have hb2 : w2.heap[b]? = some (.cells #[.pointer (some ⟨b, 0, none⟩), v] 159 (0, 0)) := (hgrow.block b hlt (fun e => hne e.symm)).trans hbk
  have d0 : w2.cell? ⟨b, 0, none⟩ = some (.pointer (some ⟨b, 0, none⟩)) := by rw [Lib.cell_of_heap hb2]; rfl
  have d1 : w2.cell? ⟨b, 1, none⟩ = some v := by rw [Lib.cell_of_heap hb2]; rfl
  have f1 : w2.frozen? ⟨b, 1, none⟩ = false := Lib.frozen_of_heap hb2 1
  obtain ⟨ao, n', cap, rfl⟩ : ∃ ao n' cap, v' = .slice ao n' cap := by
    rcases hown'.2 with ⟨hv, _⟩ | ⟨g, cap, cur, hv, _⟩
    · exact ⟨_, _, _, hv⟩
    · exact ⟨_, _, _, hv⟩
  go_wp2
  go_ret2
  refine ⟨rfl, Or.inr (Lib.BuilderAt.put hB hb2 (bs' := bs ++ Lib.strCells s) (by simpa [Lib.strCells_length] using hown') (by decide)), ?_⟩
  exact (hb1.grown hgrow (by have := hb1.size; omega) (fun k hk => (hown.lt k hk).1)).setCell (p := ⟨b, 1, none⟩) hB _

/-- A new Builder. -/
theorem build_new (w : World) : Lib.IsBuilder 159 5 w.heap.size w.heap.size [] (w.alloc (.cells #[.pointer none, .slice none 0 0] 159)) := Lib.fresh_isBuilder _ _ w

end Go.Proofs.YtcijhmbimbejfaaGreatDoor

namespace Go.Proofs.YtcijhmbimbejfaaGreatDoor
open Go.RowKit
attribute [local go_sem ↓] Go.wp_at_zero Go.wp_at_succ
set_option linter.unusedSimpArgs false
set_option linter.unusedVariables false
set_option maxRecDepth 100000

/-- Blocks of other types are as they were. -/
def KeepB (w w' : World) : Prop := ∀ X T C, Blk w X T C → T ≠ 5 → T ≠ 159 → Blk w' X T C
theorem KeepB.of {w w' : World} (h : Below w.heap.size w w') : KeepB w w' := fun _ _ _ hB _ _ => hB.kept h
theorem KeepB.trans {w w' w'' : World} (h : KeepB w w') (h' : KeepB w' w'') : KeepB w w'' := fun X T C hB h1 h2 => h' X T C (h X T C hB h1 h2) h1 h2
theorem KeepB.cell (w : World) (b j : Nat) (v : Value) {C : Array Value} {F : Nat × Nat} (h : w.heap[b]? = some (.cells C 159 F)) : KeepB w (w.setCell ⟨b, j, none⟩ v) := fun X T D hB h1 h2 => by
  have hne : X ≠ b := by
    intro e
    subst e
    have h3 : w.heap[X]? = some (.cells D T (0, 0)) := hB
    rw [h3] at h
    injection h with h
    injection h with _ h4
    exact h2 h4
  exact (Below.heap_setCell w ⟨b, j, none⟩ v X hne).trans hB
theorem KeepB.grow {w w' : World} {v : Value} {B n : Nat} {bs : List Value} (hown : w.ownsRowF B 5 1 v n bs) (hg : w.grownBy w' v.ownBlock) : KeepB w w' := fun X T D hB h1 h2 => by
  refine hB.grown hg ?_
  intro e
  rcases hown.2 with ⟨hv, _⟩ | ⟨g, cap, cur, fz, hv, _, h3, _⟩
  · rw [hv] at e
    cases e
  · rw [hv] at e
    have e2 : X = g := by simpa [Value.ownBlock] using e
    subst e2
    have h4 : w.heap[X]? = some (.cells D T (0, 0)) := hB
    rw [h4] at h3
    injection h3 with h3
    injection h3 with _ h5
    exact h1 h5
theorem KeepB.grow0 {w w' : World} {v : Value} {B n : Nat} {bs : List Value} (hown : w.ownsRow B 5 1 v n bs) (hg : w.grownBy w' v.ownBlock) : KeepB w w' := KeepB.grow (World.ownsRowF_of hown) hg

theorem check_k (B b : Nat) (bs : List Value) (w : World) (h : Lib.IsBuilder 159 5 B b bs w) :
    Calls Tryz.prog 99 #[.pointer (some ⟨b, 0, none⟩)] w fun e w' => e = .returned (.tuple #[]) ∧ (Lib.BuilderAt 159 5 B b (.pointer (some ⟨b, 0, none⟩)) bs w' ∧ Below B w w') ∧ KeepB w w' := by
  rcases h with h | h
  · refine (build_fresh b w h.cell0 h.shape h.frozen0).mono ?_
    rintro e w' ⟨rfl, rfl⟩
    obtain ⟨_, v, hb, _⟩ := id h
    exact ⟨rfl, ⟨h.used _, (Below.refl B w).setCell (p := ⟨b, 0, none⟩) h.1 _⟩, KeepB.cell w b 0 _ hb⟩
  · refine (build_used b w h.cell0).mono ?_
    rintro e w' ⟨rfl, rfl⟩
    exact ⟨rfl, ⟨h, Below.refl B _⟩, KeepB.of (Below.refl _ _)⟩

set_option maxHeartbeats 1000000 in
/-- WriteString: the text's bytes come behind. -/
theorem write_k (B b : Nat) (bs : List Value) (s : ByteArray) (w : World) (h : Lib.IsBuilder 159 5 B b bs w) (hlen : bs.length + s.size ≤ 1000000) (hBw : B ≤ w.heap.size) :
    Calls Tryz.prog 68 #[.pointer (some ⟨b, 0, none⟩), .string s] w fun e w' => e = .returned (.tuple #[.int .i64 s.size, .nilIface]) ∧ (Lib.IsBuilder 159 5 B b (bs ++ Lib.strCells s) w' ∧ Below B w w') ∧ KeepB w w' := by
  obtain ⟨i0, hi, hz0, hz1, hz2⟩ := info_parts Tryz.byteInfo
  go_enter Tryz.func68, Tryz.ntmps68
  go_wp2_with fail
  refine (check_k B b bs _ h).mono ?_
  rintro e w1 ⟨rfl, ⟨h1, hb1⟩, K1⟩
  obtain ⟨hB, v, hbk, hown, hne⟩ := h1
  have c0 : w1.cell? ⟨b, 0, none⟩ = some (.pointer (some ⟨b, 0, none⟩)) := by rw [Lib.cell_of_heap hbk]; rfl
  have c1 : w1.cell? ⟨b, 1, none⟩ = some v := by rw [Lib.cell_of_heap hbk]; rfl
  have hlt : b < w1.heap.size := (Array.getElem?_eq_some_iff.1 hbk).1
  go_wp2_with (at_builtin; refine Lib.wpList_append_own_string _ rfl _ _ 157 9 rfl B 5 i0 Tryz.underlying157 Tryz.underlying9 hi hz0 hz1 hz2 _ _ _ rfl hown s rfl ?c3 ?c4 ?c5 ?_)
  case c3 => unfold maxLen; omega
  case c4 => omega
  case c5 => have := hb1.size; omega
  intro v' w2 hown' hgrow _
  have K2 : KeepB w1 w2 := KeepB.grow0 hown hgrow
  have hb2 : w2.heap[b]? = some (.cells #[.pointer (some ⟨b, 0, none⟩), v] 159 (0, 0)) := (hgrow.block b hlt (fun e => hne e.symm)).trans hbk
  have d0 : w2.cell? ⟨b, 0, none⟩ = some (.pointer (some ⟨b, 0, none⟩)) := by rw [Lib.cell_of_heap hb2]; rfl
  have d1 : w2.cell? ⟨b, 1, none⟩ = some v := by rw [Lib.cell_of_heap hb2]; rfl
  have f1 : w2.frozen? ⟨b, 1, none⟩ = false := Lib.frozen_of_heap hb2 1
  obtain ⟨ao, n', cap, rfl⟩ : ∃ ao n' cap, v' = .slice ao n' cap := by
    rcases hown'.2 with ⟨hv, _⟩ | ⟨g, cap, cur, hv, _⟩
    · exact ⟨_, _, _, hv⟩
    · exact ⟨_, _, _, hv⟩
  go_wp2
  go_ret2
  refine ⟨rfl, ⟨Or.inr (Lib.BuilderAt.put hB hb2 (bs' := bs ++ Lib.strCells s) (by simpa [Lib.strCells_length] using hown') (by decide)), ?_⟩, (K1.trans K2).trans (KeepB.cell w2 b 1 _ hb2)⟩
  exact (hb1.grown hgrow (by have := hb1.size; omega) (fun k hk => (hown.lt k hk).1)).setCell (p := ⟨b, 1, none⟩) hB _

theorem cells_app (a b : List UInt8) : Lib.byteCells (a ++ b) = Lib.byteCells a ++ Lib.byteCells b := by simp [Lib.byteCells]
theorem cells_len (a : List UInt8) : (Lib.byteCells a).length = a.length := by simp [Lib.byteCells]
/-- A builder of these bytes; of its own from b on. -/
def BU (b : Nat) (y : List UInt8) (w : World) : Prop := Lib.IsBuilder 159 5 b b (Lib.byteCells y) w
theorem bu_new (w : World) : BU w.heap.size [] (w.alloc (.cells #[.pointer none, .slice none 0 0] 159)) := build_new w
theorem write_bu (b : Nat) (y z : List UInt8) (w : World) (h : BU b y w) (hlen : y.length + z.length ≤ 1000000) (hBw : b ≤ w.heap.size) :
    Calls Tryz.prog 68 #[.pointer (some ⟨b, 0, none⟩), .string ⟨z.toArray⟩] w fun e w' => e = .returned (.tuple #[.int .i64 z.length, .nilIface]) ∧ BU b (y ++ z) w' ∧ Below b w w' ∧ KeepB w w' := by
  refine (write_k b b (Lib.byteCells y) ⟨z.toArray⟩ w h (by rw [cells_len]; exact hlen) hBw).mono ?_
  rintro e w' ⟨rfl, ⟨h1, h2⟩, h3⟩
  refine ⟨rfl, ?_, h2, h3⟩
  unfold BU
  rw [cells_app]
  exact h1

end Go.Proofs.YtcijhmbimbejfaaGreatDoor

namespace Go.Proofs.YtcijhmbimbejfaaGreatDoor
open Go.RowKit
attribute [local go_sem ↓] Go.wp_at_zero Go.wp_at_succ
set_option linter.unusedSimpArgs false
set_option linter.unusedVariables false
set_option maxRecDepth 100000

theorem isB_below {T e : TypeId} {B b : Nat} {bs : List Value} {w w' : World} (h : Lib.IsBuilder T e B b bs w) (hb : Below w.heap.size w w') : Lib.IsBuilder T e B b bs w' := by
  have hg : w.grownBy w' none := ⟨hb.os, hb.tape, hb.output, hb.size, fun k hk _ => hb.block k hk⟩
  have key : ∀ p, Lib.BuilderAt T e B b p bs w → Lib.BuilderAt T e B b p bs w' := fun p h => by
    have hlt := h.lt
    obtain ⟨hB, v, hbk, hown, hne⟩ := h
    exact ⟨hB, v, (hb.block b hlt).trans hbk, hown.kept hg (by cases hv : v.ownBlock <;> simp), hne⟩
  rcases h with h | h
  · exact Or.inl (key _ h)
  · exact Or.inr (key _ h)

theorem Tryz.bdZero : (Tryz.prog.info? 159).map (·.zero) = some (some (.agg #[.pointer none, .slice none 0 0])) := by kernel_rfl

end Go.Proofs.YtcijhmbimbejfaaGreatDoor

namespace Go.Proofs.YtcijhmbimbejfaaGreatDoor
open Go.RowKit
attribute [local go_sem ↓] Go.wp_at_zero Go.wp_at_succ
set_option linter.unusedSimpArgs false
set_option linter.unusedVariables false
set_option maxRecDepth 100000

theorem Tryz.byteOne : (Tryz.prog.info? 5).map (·.size) = some 1 := by kernel_rfl
set_option maxHeartbeats 2000000 in
theorem grow_fresh (B b n : Nat) (w : World) (hB : B ≤ b) (hbk : w.heap[b]? = some (.cells #[.pointer (some ⟨b, 0, none⟩), .slice none 0 0] 159 (0, 0))) (hBw : B ≤ w.heap.size) (hn : n ≤ 281474976710656) :
    Calls Tryz.prog 122 #[.pointer (some ⟨b, 0, none⟩), .int .i64 n] w fun e w' => e = .returned (.tuple #[]) ∧ (Lib.BuilderAt 159 5 B b (.pointer (some ⟨b, 0, none⟩)) [] w' ∧ Below B w w') := by
  obtain ⟨cs, hrun, hle, hmax⟩ := Lib.run_makeNoZero (P := Tryz.prog) w.drew #[3] 157 5 Tryz.underlying157 n hn
  have hw : IntKind.i64.wrap (IntKind.i64.wrap 0 + (n : Int)) = n := by
    rw [IntKind.wrap_i64, IntKind.wrap_i64]
    omega
  have hcall : (callFunc 125 #[.int .i64 (IntKind.i64.wrap (IntKind.i64.wrap 0 + (n : Int)))]).run Tryz.prog w.drew = .ok (.value (.slice (some ⟨w.drew.heap.size, 0, none⟩) n cs.size)) (w.drew.drew.drew.alloc (.cells cs 5)) := by
    rw [hw, run_callFunc_extern Tryz.func125 (by kernel_rfl) (by kernel_rfl) (by kernel_rfl) (e := Extern.BytealgMakeNoZero.makeNoZero #[3] #[157]) (by kernel_rfl), hrun]
    rfl
  have hlt : b < w.heap.size := by
    rcases Nat.lt_or_ge b w.heap.size with h' | h'
    · exact h'
    · simp [Array.getElem?_eq_none h'] at hbk
  have c1 : w.drew.cell? ⟨b, 1, none⟩ = some (.slice none 0 0) := by
    have : w.drew.heap[b]? = _ := hbk
    rw [Lib.cell_of_heap this]; rfl
  have c2 : (w.alloc (.cells cs 5)).cell? ⟨b, 1, none⟩ = some (.slice none 0 0) := by
    have : (w.alloc (.cells cs 5)).heap[b]? = _ := (Lib.alloc_old w _ b hlt).trans hbk
    rw [Lib.cell_of_heap this]; rfl
  have f2 : (w.alloc (.cells cs 5)).frozen? ⟨b, 1, none⟩ = false := Lib.frozen_of_heap ((Lib.alloc_old w _ b hlt).trans hbk) 1
  have hcopy : ∀ W : World, (Builtin.copy_ #[157, 157] 3 #[.slice (some ⟨w.heap.size, 0, none⟩) 0 cs.size, .slice none 0 0]).run Tryz.prog W = .ok (goInt 0) W :=
    fun W => run_copy_none W 157 157 3 5 _ _ 0 cs.size 0 0 Tryz.underlying157 Tryz.byteOne rfl
  clear hw
  go_enter Tryz.func122, Tryz.ntmps122
  go_wp2
  have hfin := Lib.grown_fresh (T := 159) (e := 5) (cs := cs) hB hbk hBw (hmax (by unfold maxLen; omega)) (by decide)
  have hfin2 : Lib.BuilderAt 159 5 B b (.pointer (some ⟨b, 0, none⟩)) [] ((w.setCell ⟨b, 1, none⟩ (.slice (some ⟨w.heap.size, 0, none⟩) 0 cs.size)).alloc (.cells cs 5)).drew.drew.drew ∧ Below B w ((w.setCell ⟨b, 1, none⟩ (.slice (some ⟨w.heap.size, 0, none⟩) 0 cs.size)).alloc (.cells cs 5)).drew.drew.drew := by
    have h' := hfin
    rw [World.setCell_alloc_past _ _ _ _ hlt] at h'
    exact h'
  clear hfin
  go_region
  all_goals (go_wp2; go_end0; exact ⟨rfl, hfin2⟩)

set_option maxHeartbeats 2000000 in
theorem Grow_fresh (b n : Nat) (w : World) (hbk : w.heap[b]? = some (.cells #[.pointer none, .slice none 0 0] 159 (0, 0))) (hBw : b ≤ w.heap.size) (hn0 : 0 < n) (hn : n ≤ 281474976710656) :
    Calls Tryz.prog 116 #[.pointer (some ⟨b, 0, none⟩), .int .i64 n] w fun e w' => e = .returned (.tuple #[]) ∧ (BU b [] w' ∧ Below b w w') := by
  have hbk1 : (w.setCell ⟨b, 0, none⟩ (.pointer (some ⟨b, 0, none⟩))).heap[b]? = some (.cells #[.pointer (some ⟨b, 0, none⟩), .slice none 0 0] 159 (0, 0)) := by
    simp [World.setCell, Array.getElem?_modify, hbk]
  have hb1 : Below b w (w.setCell ⟨b, 0, none⟩ (.pointer (some ⟨b, 0, none⟩))) := (Below.refl b w).setCell (p := ⟨b, 0, none⟩) (Nat.le_refl b) _
  have hcc := Lib.hid (build_fresh b w (by rw [Lib.cell_of_heap hbk]; rfl) (by simp [World.shape?, hbk]) (Lib.frozen_of_heap hbk 0))
  have hs1 : b ≤ (w.setCell ⟨b, 0, none⟩ (.pointer (some ⟨b, 0, none⟩))).heap.size := Nat.le_trans hBw hb1.size
  have d1 : decide ((n : Int) < 0) = false := decide_eq_false (by omega)
  have d2 : ¬ (n : Int) < 0 := by omega
  have d3 : (0 : Int) < (n : Int) := by omega
  have d4 : decide ((0 : Int) < (n : Int)) = true := decide_eq_true d3
  go_enter Tryz.func116, Tryz.ntmps116
  go_wp2_with fail
  refine hcc.out.mono ?_
  rintro e w' ⟨rfl, rfl⟩
  generalize (w.setCell ⟨b, 0, none⟩ (.pointer (some ⟨b, 0, none⟩))) = w1 at *
  have c1 : w1.drew.cell? ⟨b, 1, none⟩ = some (.slice none 0 0) := by
    have : w1.drew.heap[b]? = _ := hbk1
    rw [Lib.cell_of_heap this]; rfl
  go_wp2_with fail
  go_region
  all_goals go_wp2_with fail
  all_goals first | refine (grow_fresh b b n w1 (Nat.le_refl b) hbk1 hs1 hn).mono ?_ | refine (grow_fresh b b n w1.drew (Nat.le_refl b) hbk1 hs1 hn).mono ?_
  all_goals rintro e w' ⟨rfl, h1, h2⟩
  all_goals go_wp2
  all_goals go_end0
  all_goals first | exact ⟨rfl, Or.inr h1, hb1.drew.trans h2⟩ | exact ⟨rfl, Or.inr h1, hb1.trans h2⟩

end Go.Proofs.YtcijhmbimbejfaaGreatDoor

namespace Go.Proofs.YtcijhmbimbejfaaGreatDoor
open Go.RowKit
attribute [local go_sem ↓] Go.wp_at_zero Go.wp_at_succ
set_option linter.unusedSimpArgs false
set_option linter.unusedVariables false
set_option maxRecDepth 100000

def catB (l : List ByteArray) : List UInt8 := l.flatMap (·.data.toList)
theorem catB_take (l : List ByteArray) (k : Nat) (hk : k < l.length) : catB (l.take (k + 1)) = catB (l.take k) ++ l[k].data.toList := by
  unfold catB
  rw [List.take_add_one, List.getElem?_eq_getElem hk, List.flatMap_append]
  simp
theorem catB_le (l : List ByteArray) (k : Nat) : (catB (l.take k)).length ≤ (catB l).length := by
  have h : catB l = catB (l.take k) ++ catB (l.drop k) := by
    unfold catB
    rw [← List.flatMap_append, List.take_append_drop]
  rw [h, List.length_append]
  omega

theorem write_bs (b : Nat) (y : List UInt8) (s : ByteArray) (w : World) (h : BU b y w) (hlen : y.length + s.size ≤ 1000000) (hBw : b ≤ w.heap.size) :
    Calls Tryz.prog 68 #[.pointer (some ⟨b, 0, none⟩), .string s] w fun e w' => e = .returned (.tuple #[.int .i64 s.size, .nilIface]) ∧ BU b (y ++ s.data.toList) w' ∧ Below b w w' := by
  have hz : s.data.toList.length = s.size := by simp
  have q := write_bu b y s.data.toList w h (by omega) hBw
  rw [hz] at q
  exact q.mono fun e w' ⟨h1, h2, h3, _⟩ => ⟨h1, h2, h3⟩

set_option maxHeartbeats 3200000 in
theorem join6 (B0 : Nat) (l : List ByteArray) (h6 : l.length = 6) (w : World) (hB0 : B0 < w.heap.size) (hat : StAt w B0 0 l) (hp : 0 < (catB l).length) (hs : (catB l).length ≤ 1000000) :
    Calls Tryz.prog 100 #[.slice (some ⟨B0, 0, none⟩) 6 6, .string ⟨#[]⟩] w fun e w' => e = .returned (.string ⟨(catB l).toArray⟩) ∧ Below w.heap.size w w' := by
  have HC : Hid (∀ k, k < 6 → ∃ x : ByteArray, w.cell? ⟨B0, k, none⟩ = some (.string x) ∧ catB (l.take (k + 1)) = catB (l.take k) ++ x.data.toList) := fun k hk => by
    have hk2 : k < l.length := by omega
    have q := hat k hk2 0 (.string l[k]) rfl
    rw [Nat.mul_one, Nat.add_zero, Nat.zero_add] at q
    exact ⟨l[k], q, catB_take l k hk2⟩
  have HL := Lib.hid (catB_le l)
  have H6 : Hid (catB (l.take 6) = catB l) := by
    show _ = _
    rw [← h6, List.take_length]
  have HB := bu_new w
  have hbk : (w.alloc (.cells #[.pointer none, .slice none 0 0] 159)).heap[w.heap.size]? = some (.cells #[.pointer none, .slice none 0 0] 159 (0, 0)) := by
    exact heap_alloc_new w _
  have bA : Below w.heap.size w (w.alloc (.cells #[.pointer none, .slice none 0 0] 159)) := (Below.refl _ _).alloc (Nat.le_refl _) _
  have HG := Lib.hid (Grow_fresh w.heap.size (catB l).length _ hbk bA.size hp (by omega))
  generalize hn : (catB l).length = n at *
  clear hat h6
  go_enter Tryz.func100, Tryz.ntmps100
  go_wp2_with fail
  go_loopw [5, 41] (fun v i wr => ∃ k : Nat, k ≤ 6 ∧ i = .int .i64 k ∧ v = .int .i64 ((catB (l.take k)).length : Nat) ∧ wr = w) (fun v i _ => 6 - (intOf i).toNat)
  case atStart => exact ⟨0, by omega, rfl, by rw [List.take_zero]; rfl, rfl⟩
  case round =>
    obtain ⟨k, hk, rfl, rfl, hw⟩ := hrel
    have hw2 := hw.symm
    clear hw
    subst hw2
    have hlk := HL.out k
    by_cases hlt : k < 6
    · obtain ⟨x, hc, hx⟩ := HC.out k hlt
      have q1 : (k : Int) < 6 := by omega
      have q2 : decide ((k : Int) < 6) = true := decide_eq_true q1
      have q3 : (0 : Int) ≤ (k : Int) := by omega
      have hlk2 := HL.out (k + 1)
      have HX : Hid ((catB (List.take k l)).length + x.size = (catB (List.take (k + 1) l)).length) := by
        show _ = _
        rw [hx, List.length_append]
        simp
      have hx2 := HX.out
      generalize hm2 : (catB (List.take (k + 1) l)).length = m2 at *
      generalize (catB (List.take k l)).length = m at *
      have s1 : IntKind.i64.wrap (9223372036854775807 - (m : Int)) = 9223372036854775807 - (m : Int) := by rw [IntKind.wrap_i64] <;> omega
      have s2 : ¬ ((9223372036854775807 : Int) - (m : Int) < (x.size : Int)) := by omega
      have s3 : decide ((9223372036854775807 : Int) - (m : Int) < (x.size : Int)) = false := decide_eq_false s2
      have s4 : IntKind.i64.wrap ((m : Int) + (x.size : Int)) = (m2 : Int) := by rw [IntKind.wrap_i64] <;> omega
      clear hx2 hx
      go_wp2
      go_roundw
      case rel => exact ⟨k + 1, by omega, by go_num, by rw [hm2], trivial⟩
      case measure => simp [intOf]; omega
    · obtain rfl : k = 6 := by omega
      rw [H6.out, hn]
      go_wp2_with fail
      refine HG.out.mono ?_
      rintro e w1 ⟨rfl, IB1, b1⟩
      have B1 := bA.trans b1
      clear HG bA b1 hbk HB
      obtain ⟨x0, hc0, hx0⟩ := HC.out 0 (by omega)
      have c0 : w1.cell? ⟨B0, 0, none⟩ = some (.string x0) := (B1.cell hB0).trans hc0
      have hl1 := HL.out 1
      rw [hx0, List.take_zero, List.length_append] at hl1
      have hz0 : x0.data.toList.length = x0.size := by simp
      have hcn : (catB []).length = 0 := rfl
      have hs0 : B0 < w1.heap.size := Nat.lt_of_lt_of_le hB0 B1.size
      clear hc0
      go_wp2_with fail
      refine (write_bs _ [] x0 _ IB1 (by simp only [List.length_nil]; omega) B1.size).mono ?_
      rintro e w2 ⟨rfl, IB2, b2⟩
      have B2 := B1.trans b2
      rw [show ([] : List UInt8) ++ x0.data.toList = catB (l.take 1) by rw [hx0]; rfl] at IB2
      clear c0 IB1 b2 B1 hz0 hcn hl1 hx0 hs0
      go_wp2_with fail
      have hsw := B2.size
      go_loopw [65] (fun i wz => ∃ k : Nat, k ≤ 5 ∧ i = .int .i64 k ∧ BU w.heap.size (catB (l.take (k + 1))) wz ∧ Below w.heap.size w wz) (fun i _ => 5 - (intOf i).toNat)
      case atStart => exact ⟨0, by omega, rfl, IB2, B2⟩
      case round =>
        obtain ⟨k, hk2, rfl, IB3, B3⟩ := hrel
        by_cases hlt2 : k < 5
        · obtain ⟨x, hc, hx⟩ := HC.out (k + 1) (by omega)
          have q1 : (k : Int) < 5 := by omega
          have q2 : decide ((k : Int) < 5) = true := decide_eq_true q1
          have q3 : (0 : Int) ≤ (k : Int) := by omega
          have hB3 := B3.size
          have c0 : wr.cell? ⟨B0, 1 + k, none⟩ = some (.string x) := by
            rw [Nat.add_comm]
            exact (B3.cell hB0).trans hc
          have hl2 := HL.out (k + 1 + 1)
          rw [hx, List.length_append] at hl2
          have hl3 := HL.out (k + 1)
          have hz0 : x.data.toList.length = x.size := by simp
          have HX := Lib.hid hx
          clear hx hc
          go_wp2_with fail
          refine (write_bs _ _ ⟨#[]⟩ _ IB3 (by show _ + 0 ≤ _; omega) hB3).mono ?_
          rintro e w4 ⟨rfl, IB4, b4⟩
          rw [show (⟨#[]⟩ : ByteArray).data.toList = [] from rfl, List.append_nil] at IB4
          have B4 := B3.trans b4
          have c0 : w4.cell? ⟨B0, 1 + k, none⟩ = some (.string x) := (b4.cell hB0).trans c0
          go_wp2_with fail
          refine (write_bs _ _ x _ IB4 (by omega) B4.size).mono ?_
          rintro e w5 ⟨rfl, IB5, b5⟩
          rw [← HX.out] at IB5
          have B5 := B4.trans b5
          go_wp2
          go_roundw
          case rel => exact ⟨k + 1, by omega, by go_num, IB5, B5⟩
          case measure => simp [intOf]; omega
        · obtain rfl : k = 5 := by omega
          rw [H6.out] at IB3
          have hB3 := B3.size
          go_wp2_with fail
          refine (Tryz.Builder_String_any w.heap.size w.heap.size _ _ IB3 B3.size).mono ?_
          rintro e w8 ⟨rfl, k8⟩
          go_wp2
          go_ret
          exact ⟨rfl, B3.trans k8⟩

end Go.Proofs.YtcijhmbimbejfaaGreatDoor

namespace Go.Proofs.YtcijhmbimbejfaaGreatDoor
open Go.RowKit

set_option maxHeartbeats 800000 in
theorem must_put (X : Nat) (n : Int) (v er : Value) (w : World) (hX : X ≤ 4611686018427387904) (hp : ∀ w2, Calls Tryz.prog 76 #[.int .u64 X, .int .i64 n] w2 fun e w' => e = .returned (.tuple #[v, er]) ∧ Below w2.heap.size w2 w') :
    Calls Tryz.prog 69 #[.int .i64 X, .int .i64 n] w fun e w' => e = .returned v ∧ Below w.heap.size w w' := by
  have HP := Lib.hid hp
  clear hp
  have HW : Hid (IntKind.u64.wrap (X : Int) = (X : Int)) := by show _ = _; rw [IntKind.wrap_u64]; omega
  go_enter Tryz.func69, Tryz.ntmps69
  go_wp2_with fail
  refine (HP.out _).mono ?_
  rintro e w' ⟨rfl, hb⟩
  go_wp2
  go_ret
  exact ⟨rfl, hb⟩

/-- Must, the number fits: its n bytes. -/
theorem must_fits (X n : Nat) (w : World) (h1 : 1 ≤ n) (h7 : n ≤ 7) (hf : X < 256 ^ n) :
    Calls Tryz.prog 69 #[.int .i64 X, .int .i64 n] w fun e w' => e = .returned (.string ⟨(putL X n).toArray⟩) ∧ Below w.heap.size w w' := by
  have hX : X ≤ 4611686018427387904 := by
    have : 256 ^ n ≤ 256 ^ 7 := Nat.pow_le_pow_right (by decide) h7
    omega
  exact must_put X n _ _ w hX fun w2 => put_fits X n w2 h1 (by omega) (fits_to X n hf)

end Go.Proofs.YtcijhmbimbejfaaGreatDoor

namespace Go.Proofs.YtcijhmbimbejfaaGreatDoor
open Go.RowKit
attribute [local go_sem ↓] Go.wp_at_zero Go.wp_at_succ
set_option linter.unusedSimpArgs false
set_option linter.unusedVariables false
set_option maxRecDepth 100000

theorem Tryz.stParts : (Tryz.prog.info? 9).map (fun i => (i.zero, i.size, i.bytes)) = some (some (.string ⟨#[]⟩), 1, 16) := by kernel_rfl
theorem fill_st (v : ByteArray) : Instr.fill (fun i => some (i * 1, 1)) ((Array.range (1 * 1)).map ((Value.string ⟨#[]⟩).cells[· % (Value.string ⟨#[]⟩).cells.size]!)) [(0, .string v)] = some (stC v) := by kernel_rfl
theorem fill_st6 (a b c d e f : ByteArray) : Instr.fill (fun i => some (i * 1, 1)) ((Array.range (6 * 1)).map ((Value.string ⟨#[]⟩).cells[· % (Value.string ⟨#[]⟩).cells.size]!)) [(0, .string a), (1, .string b), (2, .string c), (3, .string d), (4, .string e), (5, .string f)] = some #[.string a, .string b, .string c, .string d, .string e, .string f] := by kernel_rfl
/-- A list of one text. -/
theorem slice_st {o : Oper} {a : Act} {w : World} {K : Act → World → Prop} {Q : Exit → Act → World → Prop} {x : Operand} (y : ByteArray) (ho : o.op = .buildSlice 24 1 #[(0, x)]) (hx : a.eval x = .string y)
    (h : ∀ w1, Blk w1 w.heap.size 9 (stC y) → Below w.heap.size w w1 → w.heap.size < w1.heap.size → K (a.put o.dst (.slice (some ⟨w.heap.size, 0, none⟩) 1 1)) w1) : Oper.wp Tryz.prog o a w K Q := by
  obtain ⟨i0, hi, hz0, hz1, hz2⟩ := info_parts Tryz.stParts
  refine wp_buildSlice 24 9 1 _ ho (stC y) i0 (.string ⟨#[]⟩) Tryz.underlying24 hi hz0 (by rw [hz1]; decide) (by rw [hz1]; decide) (by rw [hz1]; simp only [List.map_toArray, List.map_cons, List.map_nil, hx]; exact fill_st y) (h _ (Blk.new w _ _) ((Below.refl _ _).alloc (Nat.le_refl _) _) (Blk.new w _ _).lt)
theorem sliceL_st {ops : Array Oper} {rest : List Oper} {o : Oper} {a : Act} {w : World} {Q : Exit → Act → World → Prop} {x : Operand} (y : ByteArray) (hg : o.guard = none) (ho : o.op = .buildSlice 24 1 #[(0, x)]) (hx : a.eval x = .string y)
    (h : ∀ w1, Blk w1 w.heap.size 9 (stC y) → Below w.heap.size w w1 → w.heap.size < w1.heap.size → wpList Tryz.prog ops Q rest (a.put o.dst (.slice (some ⟨w.heap.size, 0, none⟩) 1 1)) w1) : wpList Tryz.prog ops Q (o :: rest) a w :=
  wpList_plain hg fun _ hK => slice_st y ho hx fun w1 hB hb hs => hK _ _ (h w1 hB hb hs)
theorem stIn_one {w : World} {g : Nat} {y : ByteArray} (h : Blk w g 9 (stC y)) (hlt : g < w.heap.size) : StIn w (some ⟨g, 0, none⟩) [y] :=
  Or.inr ⟨g, 0, rfl, hlt, fun j hj => by
    have : j = 0 := by simp at hj; omega
    subst this
    intro i v hv
    have := h.cv i v hv
    simpa using this⟩

/-- A number's bytes, and a name's. -/
def nmW (x : Nm) : List UInt8 := putL x.su.toNat 1 ++ x.id.data.toList
theorem nmW_len (x : Nm) : (nmW x).length = 1 + x.id.size := by simp [nmW, putL_length]
theorem must_int (x : Int) (n : Nat) (w : World) (h0 : 0 ≤ x) (h1 : 1 ≤ n) (h7 : n ≤ 7) (hf : x.toNat < 256 ^ n) :
    Calls Tryz.prog 69 #[.int .i64 x, .int .i64 n] w fun e w' => e = .returned (.string ⟨(putL x.toNat n).toArray⟩) ∧ Below w.heap.size w w' := by
  obtain ⟨k, rfl⟩ := Int.eq_ofNat_of_zero_le h0
  exact must_fits k n w h1 h7 hf

theorem must_i1 (x : Int) (w : World) (h0 : 0 ≤ x) (hf : x < 256) : Calls Tryz.prog 69 #[.int .i64 x, .int .i64 1] w fun e w' => e = .returned (.string ⟨(putL x.toNat 1).toArray⟩) ∧ Below w.heap.size w w' := must_int x 1 w h0 (by decide) (by decide) (by omega)
theorem must_i2 (x : Int) (w : World) (h0 : 0 ≤ x) (hf : x < 65536) : Calls Tryz.prog 69 #[.int .i64 x, .int .i64 2] w fun e w' => e = .returned (.string ⟨(putL x.toNat 2).toArray⟩) ∧ Below w.heap.size w w' := must_int x 2 w h0 (by decide) (by decide) (by omega)
theorem must_i3 (x : Int) (w : World) (h0 : 0 ≤ x) (hf : x < 16777216) : Calls Tryz.prog 69 #[.int .i64 x, .int .i64 3] w fun e w' => e = .returned (.string ⟨(putL x.toNat 3).toArray⟩) ∧ Below w.heap.size w w' := must_int x 3 w h0 (by decide) (by decide) (by omega)
theorem must_i4 (x : Int) (w : World) (h0 : 0 ≤ x) (hf : x < 4294967296) : Calls Tryz.prog 69 #[.int .i64 x, .int .i64 4] w fun e w' => e = .returned (.string ⟨(putL x.toNat 4).toArray⟩) ∧ Below w.heap.size w w' := must_int x 4 w h0 (by decide) (by decide) (by omega)

set_option maxHeartbeats 1600000 in
theorem nameText_any (x : Nm) (w : World) (h0 : 0 ≤ x.su) (h1 : x.su ≤ 255) (hs : x.id.size ≤ 1000) :
    Calls Tryz.prog 73 #[.agg (nmC x)] w fun e w' => e = .returned (.string ⟨(nmW x).toArray⟩) ∧ Below w.heap.size w w' := by
  have HM := Lib.hid (fun W => must_i1 x.su W h0 (by omega))
  have HA := Blk.new w 23 (nmC x)
  have b0 : Below w.heap.size w (w.alloc (.cells (nmC x) 23)) := (Below.refl _ _).alloc (Nat.le_refl _) _
  have p1 : ∀ W, (Op.stringOp .add ⟨(putL x.su.toNat 1).toArray⟩ x.id).run Tryz.prog W = .ok (.string ⟨(nmW x).toArray⟩) W := fun W => run_string_add_lists W (putL x.su.toNat 1) x.id.data.toList (by rw [putL_length]; omega) (by simp; omega)
  generalize putL x.su.toNat 1 = y0 at *
  generalize nmW x = z at *
  go_enter Tryz.func73, Tryz.ntmps73
  go_upto_region 1 with (fail)
  generalize (w.alloc (.cells (nmC x) 23)) = w1 at *
  refine wp_region_noPanic ?_
  refine wp_region_held_drew (S := (fun w' => Blk w' w.heap.size 23 (nmC x))) (by kernel_rfl) ?_ (fun hHeld => ?_)
  · exact HA.drew
  refine wpAnyH_take (i := 0) (v := ?_) rfl (by kernel_rfl) (by kernel_rfl) (by kernel_rfl) (fun _ _ _ h => h) (Or.inl ⟨by rfl, ?_⟩) (by assumption) ?_
  rotate_left
  · (intro w hSw; (try dsimp only at hSw); go_simp; (try with_reducible rfl))
  (try simp only [Act.put, List.getElem_toArray, List.getElem_cons_zero, List.getElem_cons_succ, List.setIfInBounds_toArray, List.set_cons_zero, List.set_cons_succ])
  refine wpAnyH_take (i := 1) (v := .int .i64 x.su) rfl (by kernel_rfl) (by kernel_rfl) (by kernel_rfl) (fun _ _ _ h => h) (Or.inl ⟨by rfl, fun w hSw => by have c := hSw.cv 0 (.int .i64 x.su) rfl; go_simp⟩) (by assumption) ?_
  (try simp only [Act.put, List.getElem_toArray, List.getElem_cons_zero, List.getElem_cons_succ, List.setIfInBounds_toArray, List.set_cons_zero, List.set_cons_succ])
  refine wpAnyH_take (i := 3) (v := ?_) rfl (by kernel_rfl) (by kernel_rfl) (by kernel_rfl) (fun _ _ _ h => h) (Or.inl ⟨by rfl, ?_⟩) (by assumption) ?_
  rotate_left
  · (intro w hSw; (try dsimp only at hSw); go_simp; (try with_reducible rfl))
  (try simp only [Act.put, List.getElem_toArray, List.getElem_cons_zero, List.getElem_cons_succ, List.setIfInBounds_toArray, List.set_cons_zero, List.set_cons_succ])
  refine wpAnyH_take (i := 4) (v := .string x.id) rfl (by kernel_rfl) (by kernel_rfl) (by kernel_rfl) (fun _ _ _ h => h) (Or.inl ⟨by rfl, fun w hSw => by have c := hSw.cv 1 (.string x.id) rfl; go_simp⟩) (by assumption) ?_
  (try simp only [Act.put, List.getElem_toArray, List.getElem_cons_zero, List.getElem_cons_succ, List.setIfInBounds_toArray, List.set_cons_zero, List.set_cons_succ])
  refine wpAnyH_ready (rs := [2]) (by kernel_rfl) (by simp) ?_
  refine AllReadyH.cons rfl (fun K hK => ?_) AllReadyH.nil
  simp only [List.getElem_toArray, List.getElem_cons_zero, List.getElem_cons_succ]
  go_simp
  go_at_call 69; (with_reducible refine (HM.out _).mono ?_); rintro e w2 ⟨rfl, b2⟩; have HA2 := HA.drew.kept b2; have B2 := b0.drew.trans (b2.mono b0.drew.size)
  refine hK.out _ _ ?_ (fun hHeld => ?_)
  · exact HA2
  clear hK K
  (try simp only [Act.put, List.getElem_toArray, List.getElem_cons_zero, List.getElem_cons_succ, List.setIfInBounds_toArray, List.set_cons_zero, List.set_cons_succ])
  refine wpAnyH_take (i := 5) (v := .string ⟨z.toArray⟩) rfl (by kernel_rfl) (by kernel_rfl) (by kernel_rfl) (fun _ _ _ h => h) (Or.inl ⟨by rfl, fun w hSw => by go_simp⟩) (by assumption) ?_
  (try simp only [Act.put, List.getElem_toArray, List.getElem_cons_zero, List.getElem_cons_succ, List.setIfInBounds_toArray, List.set_cons_zero, List.set_cons_succ])
  refine wpAnyH_take (i := 6) (v := ?_) rfl (by kernel_rfl) (by kernel_rfl) (by kernel_rfl) (fun _ _ _ h => h) (Or.inl ⟨by rfl, ?_⟩) (by assumption) ?_
  rotate_left
  · (intro w hSw; (try dsimp only at hSw); go_simp; (try with_reducible rfl))
  (try simp only [Act.put, List.getElem_toArray, List.getElem_cons_zero, List.getElem_cons_succ, List.setIfInBounds_toArray, List.set_cons_zero, List.set_cons_succ])
  refine wpAnyH_done (by kernel_rfl) ?_ _
  refine NoPanic.normal ?_
  go_wp2
  go_ret
  exact ⟨rfl, B2⟩

theorem slice6_st {o : Oper} {a : Act} {w : World} {K : Act → World → Prop} {Q : Exit → Act → World → Prop} {x0 x1 x2 x3 x4 x5 : Operand} (y0 y1 y2 y3 y4 y5 : ByteArray) (ho : o.op = .buildSlice 24 6 #[(0, x0), (1, x1), (2, x2), (3, x3), (4, x4), (5, x5)]) (h0 : a.eval x0 = .string y0) (h1 : a.eval x1 = .string y1) (h2 : a.eval x2 = .string y2) (h3 : a.eval x3 = .string y3) (h4 : a.eval x4 = .string y4) (h5 : a.eval x5 = .string y5)
    (h : ∀ w1, StAt w1 w.heap.size 0 [y0, y1, y2, y3, y4, y5] → Below w.heap.size w w1 → w.heap.size < w1.heap.size → K (a.put o.dst (.slice (some ⟨w.heap.size, 0, none⟩) 6 6)) w1) : Oper.wp Tryz.prog o a w K Q := by
  obtain ⟨i0, hi, hz0, hz1, hz2⟩ := info_parts Tryz.stParts
  refine wp_buildSlice 24 9 6 _ ho #[.string y0, .string y1, .string y2, .string y3, .string y4, .string y5] i0 (.string ⟨#[]⟩) Tryz.underlying24 hi hz0 (by rw [hz1]; decide) (by rw [hz1]; decide) (by rw [hz1]; simp only [List.map_toArray, List.map_cons, List.map_nil, h0, h1, h2, h3, h4, h5]; exact fill_st6 y0 y1 y2 y3 y4 y5) (h _ ?_ ((Below.refl _ _).alloc (Nat.le_refl _) _) (Blk.new w _ _).lt)
  have hB := Blk.new w 9 #[.string y0, .string y1, .string y2, .string y3, .string y4, .string y5]
  generalize w.alloc (.cells #[.string y0, .string y1, .string y2, .string y3, .string y4, .string y5] 9) = w1 at *
  intro j hj i v hv
  have hi0 : i = 0 := by
    rcases Nat.eq_zero_or_pos i with q | q
    · exact q
    · rw [Array.getElem?_eq_none (by show 1 ≤ i; omega)] at hv
      cases hv
  subst hi0
  have hj6 : j = 0 ∨ j = 1 ∨ j = 2 ∨ j = 3 ∨ j = 4 ∨ j = 5 := by
    have : j < 6 := hj
    omega
  rcases hj6 with rfl | rfl | rfl | rfl | rfl | rfl
  · exact hB.cv 0 v hv
  · exact hB.cv 1 v hv
  · exact hB.cv 2 v hv
  · exact hB.cv 3 v hv
  · exact hB.cv 4 v hv
  · exact hB.cv 5 v hv

/-- An address by which one may be managed, as bytes. -/
def mgN (x : Mg) : Nm := ⟨x.asb, x.ai⟩
def mgW (x : Mg) : List UInt8 := putL (1 + x.ai.size) 1 ++ (nmW (mgN x) ++ (putL x.fs.toNat 1 ++ (putL x.fi.toNat 4 ++ (putL x.oid.size 1 ++ x.oid.data.toList))))
theorem mgW_len (x : Mg) : (mgW x).length = 8 + x.ai.size + x.oid.size := by
  simp [mgW, nmW, mgN, putL_length]
  omega

set_option maxHeartbeats 3200000 in
theorem manageText_any (x : Mg) (w : World) (h0 : 0 ≤ x.asb) (h1 : x.asb ≤ 255) (h2 : x.ai.size ≤ 31) (h3 : 0 ≤ x.fs) (h4 : x.fs ≤ 3) (h5 : 0 ≤ x.fi) (h6 : x.fi < 4294967296) (h7 : x.oid.size ≤ 128) :
    Calls Tryz.prog 74 #[.agg (mgC x)] w fun e w' => e = .returned (.string ⟨(mgW x).toArray⟩) ∧ Below w.heap.size w w' := by
  have HN := Lib.hid (fun W => nameText_any (mgN x) W h0 h1 (by show x.ai.size ≤ _; omega))
  have hnl := nmW_len (mgN x)
  have hnl2 : (mgN x).id.size = x.ai.size := rfl
  have HM0 := Lib.hid (fun W => must_i1 ((nmW (mgN x)).length : Int) W (by omega) (by omega))
  have HM1 := Lib.hid (fun W => must_i1 x.fs W h3 (by omega))
  have HM2 := Lib.hid (fun W => must_i4 x.fi W h5 (by omega))
  have HM3 := Lib.hid (fun W => must_i1 (x.oid.size : Int) W (by omega) (by omega))
  have hcat : Hid (catB [⟨(putL ((nmW (mgN x)).length : Int).toNat 1).toArray⟩, ⟨(nmW (mgN x)).toArray⟩, ⟨(putL x.fs.toNat 1).toArray⟩, ⟨(putL x.fi.toNat 4).toArray⟩, ⟨(putL (x.oid.size : Int).toNat 1).toArray⟩, x.oid] = mgW x) := by
    show _ = _
    have e1 : ((nmW (mgN x)).length : Int).toNat = 1 + x.ai.size := by rw [hnl, hnl2]; rfl
    rw [e1]
    show _ = _
    unfold mgW catB
    simp only [List.flatMap_cons, List.flatMap_nil, List.append_nil]
    rfl
  have hml := mgW_len x
  have HA := Blk.new w 94 (mgC x)
  have b0 : Below w.heap.size w (w.alloc (.cells (mgC x) 94)) := (Below.refl _ _).alloc (Nat.le_refl _) _
  clear hnl2
  generalize hmw : mgW x = z at *
  generalize hy0 : putL ((nmW (mgN x)).length : Int).toNat 1 = y0 at *
  generalize hy1 : putL x.fs.toNat 1 = y1 at *
  generalize hy2 : putL x.fi.toNat 4 = y2 at *
  generalize hy3 : putL (x.oid.size : Int).toNat 1 = y3 at *
  generalize hym : nmW (mgN x) = ym at *
  clear hy0 hy1 hy2 hy3 hym hmw hnl
  go_enter Tryz.func74, Tryz.ntmps74
  go_upto_region 1 with (fail)
  generalize (w.alloc (.cells (mgC x) 94)) = w1 at *
  go_wp2_with (refine load_blk (k := 0) 23 (nmC (mgN x)) (by rfl) rfl rfl HA (by kernel_rfl) (by kernel_rfl) rfl ?_)
  refine (HN.out _).mono ?_
  rintro e w2 ⟨rfl, b2⟩
  have HA2 := HA.kept b2
  have B2 := b0.trans (b2.mono b0.size)
  clear HA b0 b2 HN
  go_upto_region 2 with (fail)
  refine wp_region_noPanic ?_
  refine wp_region_held_drew (S := (fun w' => Blk w' w.heap.size 94 (mgC x))) (by kernel_rfl) ?_ (fun hHeld => ?_)
  · exact HA2.drew
  refine wpAnyH_take (i := 0) (v := ?_) rfl (by kernel_rfl) (by kernel_rfl) (by kernel_rfl) (fun _ _ _ h => h) (Or.inl ⟨by rfl, ?_⟩) (by assumption) ?_
  rotate_left
  · (intro w hSw; (try dsimp only at hSw); go_simp; (try with_reducible rfl))
  (try simp only [Act.put, List.getElem_toArray, List.getElem_cons_zero, List.getElem_cons_succ, List.setIfInBounds_toArray, List.set_cons_zero, List.set_cons_succ])
  refine wpAnyH_take (i := 1) (v := ?_) rfl (by kernel_rfl) (by kernel_rfl) (by kernel_rfl) (fun _ _ _ h => h) (Or.inl ⟨by rfl, ?_⟩) (by assumption) ?_
  rotate_left
  · (intro w hSw; (try dsimp only at hSw); go_simp; (try with_reducible rfl))
  (try simp only [Act.put, List.getElem_toArray, List.getElem_cons_zero, List.getElem_cons_succ, List.setIfInBounds_toArray, List.set_cons_zero, List.set_cons_succ])
  refine wpAnyH_take (i := 3) (v := ?_) rfl (by kernel_rfl) (by kernel_rfl) (by kernel_rfl) (fun _ _ _ h => h) (Or.inl ⟨by rfl, ?_⟩) (by assumption) ?_
  rotate_left
  · (intro w hSw; (try dsimp only at hSw); go_simp; (try with_reducible rfl))
  (try simp only [Act.put, List.getElem_toArray, List.getElem_cons_zero, List.getElem_cons_succ, List.setIfInBounds_toArray, List.set_cons_zero, List.set_cons_succ])
  refine wpAnyH_take (i := 4) (v := ?_) rfl (by kernel_rfl) (by kernel_rfl) (by kernel_rfl) (fun _ _ _ h => h) (Or.inl ⟨by rfl, ?_⟩) (by assumption) ?_
  rotate_left
  · (intro w hSw; (try dsimp only at hSw); go_simp; (try with_reducible rfl))
  (try simp only [Act.put, List.getElem_toArray, List.getElem_cons_zero, List.getElem_cons_succ, List.setIfInBounds_toArray, List.set_cons_zero, List.set_cons_succ])
  refine wpAnyH_take (i := 5) (v := .int .i64 x.fs) rfl (by kernel_rfl) (by kernel_rfl) (by kernel_rfl) (fun _ _ _ h => h) (Or.inl ⟨by rfl, fun w hSw => by have c := hSw.cv 2 (.int .i64 x.fs) rfl; go_simp⟩) (by assumption) ?_
  (try simp only [Act.put, List.getElem_toArray, List.getElem_cons_zero, List.getElem_cons_succ, List.setIfInBounds_toArray, List.set_cons_zero, List.set_cons_succ])
  refine wpAnyH_take (i := 7) (v := ?_) rfl (by kernel_rfl) (by kernel_rfl) (by kernel_rfl) (fun _ _ _ h => h) (Or.inl ⟨by rfl, ?_⟩) (by assumption) ?_
  rotate_left
  · (intro w hSw; (try dsimp only at hSw); go_simp; (try with_reducible rfl))
  (try simp only [Act.put, List.getElem_toArray, List.getElem_cons_zero, List.getElem_cons_succ, List.setIfInBounds_toArray, List.set_cons_zero, List.set_cons_succ])
  refine wpAnyH_take (i := 8) (v := .int .i64 x.fi) rfl (by kernel_rfl) (by kernel_rfl) (by kernel_rfl) (fun _ _ _ h => h) (Or.inl ⟨by rfl, fun w hSw => by have c := hSw.cv 3 (.int .i64 x.fi) rfl; go_simp⟩) (by assumption) ?_
  (try simp only [Act.put, List.getElem_toArray, List.getElem_cons_zero, List.getElem_cons_succ, List.setIfInBounds_toArray, List.set_cons_zero, List.set_cons_succ])
  refine wpAnyH_take (i := 10) (v := ?_) rfl (by kernel_rfl) (by kernel_rfl) (by kernel_rfl) (fun _ _ _ h => h) (Or.inl ⟨by rfl, ?_⟩) (by assumption) ?_
  rotate_left
  · (intro w hSw; (try dsimp only at hSw); go_simp; (try with_reducible rfl))
  (try simp only [Act.put, List.getElem_toArray, List.getElem_cons_zero, List.getElem_cons_succ, List.setIfInBounds_toArray, List.set_cons_zero, List.set_cons_succ])
  refine wpAnyH_take (i := 11) (v := .string x.oid) rfl (by kernel_rfl) (by kernel_rfl) (by kernel_rfl) (fun _ _ _ h => h) (Or.inl ⟨by rfl, fun w hSw => by have c := hSw.cv 4 (.string x.oid) rfl; go_simp⟩) (by assumption) ?_
  (try simp only [Act.put, List.getElem_toArray, List.getElem_cons_zero, List.getElem_cons_succ, List.setIfInBounds_toArray, List.set_cons_zero, List.set_cons_succ])
  refine wpAnyH_take (i := 12) (v := ?_) rfl (by kernel_rfl) (by kernel_rfl) (by kernel_rfl) (fun _ _ _ h => h) (Or.inl ⟨by rfl, ?_⟩) (by assumption) ?_
  rotate_left
  · (intro w hSw; (try dsimp only at hSw); go_simp; (try with_reducible rfl))
  (try simp only [Act.put, List.getElem_toArray, List.getElem_cons_zero, List.getElem_cons_succ, List.setIfInBounds_toArray, List.set_cons_zero, List.set_cons_succ])
  refine wpAnyH_take (i := 14) (v := ?_) rfl (by kernel_rfl) (by kernel_rfl) (by kernel_rfl) (fun _ _ _ h => h) (Or.inl ⟨by rfl, ?_⟩) (by assumption) ?_
  rotate_left
  · (intro w hSw; (try dsimp only at hSw); go_simp; (try with_reducible rfl))
  (try simp only [Act.put, List.getElem_toArray, List.getElem_cons_zero, List.getElem_cons_succ, List.setIfInBounds_toArray, List.set_cons_zero, List.set_cons_succ])
  refine wpAnyH_take (i := 15) (v := .string x.oid) rfl (by kernel_rfl) (by kernel_rfl) (by kernel_rfl) (fun _ _ _ h => h) (Or.inl ⟨by rfl, fun w hSw => by have c := hSw.cv 4 (.string x.oid) rfl; go_simp⟩) (by assumption) ?_
  (try simp only [Act.put, List.getElem_toArray, List.getElem_cons_zero, List.getElem_cons_succ, List.setIfInBounds_toArray, List.set_cons_zero, List.set_cons_succ])
  refine wpAnyH_ready (rs := [2]) (by kernel_rfl) (by simp) ?_
  refine AllReadyH.cons rfl (fun K hK => ?_) AllReadyH.nil
  simp only [List.getElem_toArray, List.getElem_cons_zero, List.getElem_cons_succ]
  go_simp
  go_at_call 69; (with_reducible refine (HM0.out _).mono ?_); rintro e w3 ⟨rfl, b3⟩; have HA3 := HA2.drew.kept b3; have B3 := B2.drew.trans (b3.mono B2.drew.size)
  refine hK.out _ _ ?_ (fun hHeld => ?_)
  · exact HA3
  clear hK K
  (try simp only [Act.put, List.getElem_toArray, List.getElem_cons_zero, List.getElem_cons_succ, List.setIfInBounds_toArray, List.set_cons_zero, List.set_cons_succ])
  refine wpAnyH_ready (rs := [6]) (by kernel_rfl) (by simp) ?_
  refine AllReadyH.cons rfl (fun K hK => ?_) AllReadyH.nil
  simp only [List.getElem_toArray, List.getElem_cons_zero, List.getElem_cons_succ]
  go_simp
  go_at_call 69; (with_reducible refine (HM1.out _).mono ?_); rintro e w4 ⟨rfl, b4⟩; have HA4 := HA3.kept b4; have B4 := B3.trans (b4.mono B3.size)
  refine hK.out _ _ ?_ (fun hHeld => ?_)
  · exact HA4
  clear hK K
  (try simp only [Act.put, List.getElem_toArray, List.getElem_cons_zero, List.getElem_cons_succ, List.setIfInBounds_toArray, List.set_cons_zero, List.set_cons_succ])
  refine wpAnyH_ready (rs := [9]) (by kernel_rfl) (by simp) ?_
  refine AllReadyH.cons rfl (fun K hK => ?_) AllReadyH.nil
  simp only [List.getElem_toArray, List.getElem_cons_zero, List.getElem_cons_succ]
  go_simp
  go_at_call 69; (with_reducible refine (HM2.out _).mono ?_); rintro e w5 ⟨rfl, b5⟩; have HA5 := HA4.kept b5; have B5 := B4.trans (b5.mono B4.size)
  refine hK.out _ _ ?_ (fun hHeld => ?_)
  · exact HA5
  clear hK K
  (try simp only [Act.put, List.getElem_toArray, List.getElem_cons_zero, List.getElem_cons_succ, List.setIfInBounds_toArray, List.set_cons_zero, List.set_cons_succ])
  refine wpAnyH_ready (rs := [13]) (by kernel_rfl) (by simp) ?_
  refine AllReadyH.cons rfl (fun K hK => ?_) AllReadyH.nil
  simp only [List.getElem_toArray, List.getElem_cons_zero, List.getElem_cons_succ]
  go_simp
  go_at_call 69; (with_reducible refine (HM3.out _).mono ?_); rintro e w6 ⟨rfl, b6⟩; have HA6 := HA5.kept b6; have B6 := B5.trans (b6.mono B5.size)
  refine hK.out _ _ ?_ (fun hHeld => ?_)
  · exact HA6
  clear hK K
  (try simp only [Act.put, List.getElem_toArray, List.getElem_cons_zero, List.getElem_cons_succ, List.setIfInBounds_toArray, List.set_cons_zero, List.set_cons_succ])
  refine wpAnyH_ready (rs := [16]) (by kernel_rfl) (by simp) ?_
  refine AllReadyH.cons rfl (fun K hK => ?_) AllReadyH.nil
  simp only [List.getElem_toArray, List.getElem_cons_zero, List.getElem_cons_succ]
  rw [if_pos (by rfl)]
  refine slice6_st ⟨y0.toArray⟩ ⟨ym.toArray⟩ ⟨y1.toArray⟩ ⟨y2.toArray⟩ ⟨y3.toArray⟩ x.oid rfl rfl rfl rfl rfl rfl rfl (fun w7 hat7 b7 hlt7 => ?_)
  have HA7 := HA6.kept b7
  have B7 := B6.trans (b7.mono B6.size)
  have hp7 : 0 < (catB [⟨y0.toArray⟩, ⟨ym.toArray⟩, ⟨y1.toArray⟩, ⟨y2.toArray⟩, ⟨y3.toArray⟩, x.oid]).length := by rw [hcat.out]; omega
  have hs7 : (catB [⟨y0.toArray⟩, ⟨ym.toArray⟩, ⟨y1.toArray⟩, ⟨y2.toArray⟩, ⟨y3.toArray⟩, x.oid]).length ≤ 1000000 := by rw [hcat.out]; omega
  refine hK.out _ _ ?_ (fun hHeld => ?_)
  · exact HA7
  clear hK K
  (try simp only [Act.put, List.getElem_toArray, List.getElem_cons_zero, List.getElem_cons_succ, List.setIfInBounds_toArray, List.set_cons_zero, List.set_cons_succ])
  refine wpAnyH_ready (rs := [17]) (by kernel_rfl) (by simp) ?_
  refine AllReadyH.cons rfl (fun K hK => ?_) AllReadyH.nil
  simp only [List.getElem_toArray, List.getElem_cons_zero, List.getElem_cons_succ]
  go_simp
  refine (join6 w6.heap.size _ rfl w7 hlt7 hat7 hp7 hs7).mono ?_
  rintro e w8 ⟨rfl, b8⟩
  have HA8 := HA7.kept b8
  have B8 := B7.trans (b8.mono B7.size)
  rw [hcat.out]
  refine hK.out _ _ ?_ (fun hHeld => ?_)
  · exact HA8
  clear hK K
  (try simp only [Act.put, List.getElem_toArray, List.getElem_cons_zero, List.getElem_cons_succ, List.setIfInBounds_toArray, List.set_cons_zero, List.set_cons_succ])
  refine wpAnyH_take (i := 18) (v := ?_) rfl (by kernel_rfl) (by kernel_rfl) (by kernel_rfl) (fun _ _ _ h => h) (Or.inl ⟨by rfl, ?_⟩) (by assumption) ?_
  rotate_left
  · (intro w hSw; (try dsimp only at hSw); go_simp; (try with_reducible rfl))
  (try simp only [Act.put, List.getElem_toArray, List.getElem_cons_zero, List.getElem_cons_succ, List.setIfInBounds_toArray, List.set_cons_zero, List.set_cons_succ])
  refine wpAnyH_done (by kernel_rfl) ?_ _
  refine NoPanic.normal ?_
  go_wp2
  go_ret
  exact ⟨rfl, B8⟩

end Go.Proofs.YtcijhmbimbejfaaGreatDoor

namespace Go.Proofs.YtcijhmbimbejfaaGreatDoor
open Go.RowKit
attribute [local go_sem ↓] Go.wp_at_zero Go.wp_at_succ
set_option linter.unusedSimpArgs false
set_option linter.unusedVariables false
set_option maxRecDepth 100000

def tlC (x : Tl) : Array Value := #[.int .i64 x.k, .string x.t]
def rgTl (x : Tl) : Prop := i64R x.k ∧ x.t.size ≤ maxLen
def TlAt (w : World) (b o : Nat) (l : List Tl) : Prop := ∀ j (hj : j < l.length), CellsAt w b (o + j * 2) (tlC l[j])
def TlIn (w : World) (a : Option Addr) (l : List Tl) : Prop := l = [] ∨ ∃ b o, a = some ⟨b, o, none⟩ ∧ b < w.heap.size ∧ TlAt w b o l
theorem TlAt.below {w w' : World} {b o D : Nat} {l : List Tl} (h : TlAt w b o l) (hb : Below D w w') (hB : b < D) : TlAt w' b o l := fun j hj => (h j hj).below hb hB
theorem TlIn.below {w w' : World} {a : Option Addr} {l : List Tl} (h : TlIn w a l) (hb : Below w.heap.size w w') : TlIn w' a l := by
  rcases h with h | ⟨b, o, h1, h2, h3⟩
  · exact Or.inl h
  · exact Or.inr ⟨b, o, h1, Nat.lt_of_lt_of_le h2 hb.size, fun j hj => (h3 j hj).below hb h2⟩
theorem TlIn.drew {w : World} {a : Option Addr} {l : List Tl} (h : TlIn w a l) : TlIn w.drew a l := h
theorem TlIn.at {w : World} {a : Option Addr} {l : List Tl} (h : TlIn w a l) {k : Nat} (hk : k < l.length) : ∃ b o, a = some ⟨b, o, none⟩ ∧ b < w.heap.size ∧ TlAt w b o l := by
  rcases h with rfl | h
  · simp at hk
  · exact h
/-- A list that lay somewhere ahead lies there still. -/
theorem TlIn.late {w0 w w' : World} {a : Option Addr} {l : List Tl} (h : TlIn w a l) (h0 : TlIn w0 a l) (hb : Below w0.heap.size w w') : TlIn w' a l := by
  rcases h with h | ⟨b, o, e1, e2, e3⟩
  · exact Or.inl h
  · rcases h0 with h0 | ⟨b0, o0, f1, f2, f3⟩
    · exact Or.inl h0
    · rw [e1] at f1
      cases f1
      exact Or.inr ⟨b, o, e1, Nat.lt_of_lt_of_le e2 hb.size, e3.below hb f2⟩
theorem Tryz.tlZero : (Tryz.prog.info? 85).map (·.zero) = some (some (.agg (tlC zTl))) := by kernel_rfl
def eqTl (a b : Tl) : Bool := (a.k == b.k) && (a.t.toList == b.t.toList)
theorem run_eql_tl (d : Nat) (a b : Tl) (w : World) : (Op.equalIn (d + 5) 85 (.agg (tlC a)) (.agg (tlC b))).run Tryz.prog w = .ok (eqTl a b) w := by
  have hs : Tryz.prog.stoodInHeld 85 = false := by kernel_rfl
  have hu : Tryz.prog.underlying 85 = some (.struct (Tryz.prog.fieldsOf 85)) := by kernel_rfl
  have hf : (Tryz.prog.fieldsOf 85).toList.map (fun f => (f.name == "_", f.type, f.offset)) = [(false, 3, 0), (false, 9, 1)] := by kernel_rfl
  rw [run_equalIn_agg w (d + 4) 85 _ _ hu hs]
  obtain ⟨f0, l0, h0, g0, hf⟩ := List.map_eq_cons_iff.1 hf
  obtain ⟨f1, l1, rfl, g1, hf⟩ := List.map_eq_cons_iff.1 hf
  obtain rfl := List.map_eq_nil_iff.1 hf
  rw [h0]
  have e0 := run_equalIn_int (P := Tryz.prog) w (d + 3) 3 .i64 .i64 a.k b.k Tryz.underlying3
  have e1 := run_equalIn_string (P := Tryz.prog) w (d + 3) 9 a.t b.t Tryz.underlying9
  have h := run_eqFields_cons w (d + 4) (tlC a) (tlC b) f0 _ _ _ _ _ _ _ g0 (run_part_one w _ _ 0 _ (by kernel_rfl) rfl) (run_part_one w _ _ 0 _ (by kernel_rfl) rfl) e0
    (run_eqFields_cons w (d + 4) (tlC a) (tlC b) f1 _ _ _ _ _ _ _ g1 (run_part_one w _ _ 1 _ (by kernel_rfl) rfl) (run_part_one w _ _ 1 _ (by kernel_rfl) rfl) e1
    (run_eqFields_nil w (d + 4) _ _))
  rw [Bool.and_true] at h
  exact h
theorem eqTl_same (a : Tl) : eqTl a a = true := by simp [eqTl]
theorem tl_same (x : Tl) (W : World) : (Op.equalIn 10000 85 (.agg (tlC x)) (.agg (tlC x))).run Tryz.prog W = .ok true W := by
  have h := run_eql_tl 9995 x x W
  rw [eqTl_same] at h
  exact h
/-- The cells of records, one behind the other. -/
def tlR (l : List Tl) : List Value := l.flatMap fun v => (tlC v).toList
theorem tlR_cons (v : Tl) (l : List Tl) : tlR (v :: l) = (tlC v).toList ++ tlR l := by simp [tlR]
theorem tlR_append (l m : List Tl) : tlR (l ++ m) = tlR l ++ tlR m := by simp [tlR]
theorem tlR_one (v : Tl) : tlR [v] = (tlC v).toList := by simp [tlR]
theorem tlC_len (v : Tl) : (tlC v).toList.length = 2 := rfl
theorem tlR_len (l : List Tl) : (tlR l).length = l.length * 2 := by
  induction l with
  | nil => rfl
  | cons v l ih => rw [tlR_cons, List.length_append, ih, tlC_len, List.length_cons]; omega
theorem tlR_get : ∀ (l : List Tl) (j : Nat) (hj : j < l.length) (k : Nat), k < 2 → (tlR l)[j * 2 + k]? = (tlC l[j])[k]?
  | [], j, hj, _, _ => by simp at hj
  | v :: l, 0, _, k, hk => by
    rw [tlR_cons, List.getElem?_append_left (by rw [tlC_len]; omega)]
    simp
  | v :: l, j + 1, hj, k, hk => by
    have ih := tlR_get l j (by simpa using hj) k hk
    rw [tlR_cons, List.getElem?_append_right (by rw [tlC_len]; omega), tlC_len, show (j + 1) * 2 + k - 2 = j * 2 + k by omega, ih]
    rfl
theorem tlC_cells (v : Tl) : ∀ u ∈ (tlC v).toList, u.oneCell' = true := by
  intro u hu
  simp only [tlC, List.mem_cons, List.not_mem_nil, or_false] at hu
  rcases hu with rfl | rfl <;> rfl
theorem tlR_cells (l : List Tl) : ∀ u ∈ tlR l, u.oneCell' = true := by
  intro u hu
  unfold tlR at hu
  obtain ⟨v, _, hv⟩ := List.mem_flatMap.1 hu
  exact tlC_cells v u hv
theorem tlAt_news {w : World} {b o : Nat} {l : List Tl} (h : TlAt w b o l) : ∀ (q : Nat) u, (tlR l)[q]? = some u → w.cell? ((⟨b, o, none⟩ : Addr).add q) = some u := by
  intro q u hu
  have hq : q < l.length * 2 := by
    rw [← tlR_len]
    exact (List.getElem?_eq_some_iff.1 hu).1
  have hj : q / 2 < l.length := by omega
  have e : q = q / 2 * 2 + q % 2 := by omega
  rw [e, tlR_get l (q / 2) hj (q % 2) (by omega)] at hu
  have := h (q / 2) hj (q % 2) u hu
  rw [e, Addr.add_lit, ← Nat.add_assoc]
  exact this
theorem tl_own {w : World} {base g cap n : Nat} {T : TypeId} {l : List Tl} (hn : n = l.length) (h : w.ownsRow base T 2 (.slice (some ⟨g, 0, none⟩) n cap) n (tlR l)) : TlAt w g 0 l := by
  subst hn
  intro j hj k c hc
  have hk : k < 2 := (Array.getElem?_eq_some_iff.1 hc).1
  have h2 := h.cellAt (j * 2 + k) (by omega)
  rw [tlR_get l j hj k hk, hc] at h2
  rw [Nat.zero_add]
  exact h2
/-- A row of records of one's own: none, or a block from base on. -/
def OwnTl (w : World) (base : Nat) (v : Value) (l : List Tl) : Prop := (l = [] ∧ v = .slice none 0 0) ∨ (l ≠ [] ∧ ∃ g cap, v = .slice (some ⟨g, 0, none⟩) l.length cap ∧ w.ownsRow base 85 2 v l.length (tlR l))
theorem OwnTl.nil (w : World) (base : Nat) : OwnTl w base (.slice none 0 0) [] := Or.inl ⟨rfl, rfl⟩
theorem OwnTl.kept {w w' : World} {base : Nat} {v : Value} {l : List Tl} (h : OwnTl w base v l) (hb : Below w.heap.size w w') : OwnTl w' base v l := by
  rcases h with h | ⟨h1, g, cap, rfl, h2⟩
  · exact Or.inl h
  · exact Or.inr ⟨h1, g, cap, rfl, h2.kept (show w.grownBy w' none from ⟨hb.os, hb.tape, hb.output, hb.size, fun k hk _ => hb.block k hk⟩) (Or.inr (by simp [Value.ownBlock]))⟩
theorem OwnTl.alloc {w : World} {base : Nat} {v : Value} {l : List Tl} (h : OwnTl w base v l) (o : Obj) : OwnTl (w.alloc o) base v l := h.kept ((Below.refl _ _).alloc (Nat.le_refl _) o)
theorem OwnTl.inL {w : World} {base : Nat} {v : Value} {l : List Tl} (h : OwnTl w base v l) : ∃ a c, v = .slice a l.length c ∧ TlIn w a l := by
  rcases h with ⟨rfl, rfl⟩ | ⟨h1, g, cap, rfl, h2⟩
  · exact ⟨none, 0, rfl, Or.inl rfl⟩
  · exact ⟨some ⟨g, 0, none⟩, cap, rfl, Or.inr ⟨g, 0, rfl, (h2.lt g rfl).2, tl_own rfl h2⟩⟩
theorem tlR_snoc (l : List Tl) (x : Tl) : tlR (l ++ [x]) = tlR l ++ (tlC x).toList := by rw [tlR_append, tlR_one]
/-- Another block is written. -/
theorem OwnTl.grown {w w' : World} {base : Nat} {v : Value} {l : List Tl} {row : Option Nat} (h : OwnTl w base v l) (hg : w.grownBy w' row) (hr : ∀ g, row = some g → g < base) : OwnTl w' base v l := by
  rcases h with h | ⟨h1, g, cap, rfl, h2⟩
  · exact Or.inl h
  · refine Or.inr ⟨h1, g, cap, rfl, h2.kept hg ?_⟩
    right
    intro e
    have h3 := (h2.lt g rfl).1
    have := hr g (by rw [← e]; simp [Value.ownBlock])
    omega
theorem OwnTl.mono {w : World} {base B : Nat} {v : Value} {l : List Tl} (h : OwnTl w base v l) (hB : B ≤ base) : OwnTl w B v l := by
  rcases h with h | ⟨h1, g, cap, rfl, h2, h3⟩
  · exact Or.inl h
  · refine Or.inr ⟨h1, g, cap, rfl, h2, ?_⟩
    rcases h3 with h3 | ⟨g', cap', cur, e1, e2, e3⟩
    · exact Or.inl h3
    · exact Or.inr ⟨g', cap', cur, e1, Nat.le_trans hB e2, e3⟩
/-- Its block. -/
theorem OwnTl.blk {w : World} {base : Nat} {v : Value} {l : List Tl} (h : OwnTl w base v l) : v.ownBlock = none ∨ ∃ g C, v.ownBlock = some g ∧ base ≤ g ∧ Blk w g 85 C := by
  rcases h with ⟨rfl, rfl⟩ | ⟨h1, g, cap, rfl, h2⟩
  · exact Or.inl rfl
  · rcases h2.2 with ⟨h3, -⟩ | ⟨g1, cap1, cur1, e1, e2, e3, -⟩
    · cases h3
    · cases e1
      exact Or.inr ⟨g, cur1, rfl, e2, e3⟩
/-- A block of another type is written. -/
theorem OwnTl.other {w w' : World} {base B : Nat} {v : Value} {l : List Tl} {T : TypeId} {C : Array Value} (h : OwnTl w base v l) (hB : Blk w B T C) (hT : T ≠ 85) (hg : w.grownBy w' (some B)) : OwnTl w' base v l := by
  have hb := h.blk
  rcases h with h | ⟨h1, g, cap, rfl, h2⟩
  · exact Or.inl h
  · refine Or.inr ⟨h1, g, cap, rfl, h2.kept hg ?_⟩
    right
    intro e
    rcases hb with hb | ⟨g1, C1, e1, e2, e3⟩
    · rw [hb] at e; cases e
    · rw [e1] at e
      cases e
      have h3 : w.heap[B]? = some (.cells C T (0, 0)) := hB
      have h4 : w.heap[B]? = some (.cells C1 85 (0, 0)) := e3
      rw [h3] at h4
      injection h4 with h4
      injection h4 with _ h5
      exact hT h5
theorem Tryz.tlParts : (Tryz.prog.info? 85).map (fun i => (i.zero, i.size, i.bytes)) = some (some (.agg (tlC zTl)), 2, 24) := by kernel_rfl
theorem fill_tl (v : Tl) : Instr.fill (fun i => some (i * 2, 2)) ((Array.range (1 * 2)).map ((Value.agg (tlC zTl)).cells[· % (Value.agg (tlC zTl)).cells.size]!)) [(0, .agg (tlC v))] = some (tlC v) := by kernel_rfl
/-- One comes behind. -/
theorem append_tl {o : Oper} {a : Act} {w : World} {K : Act → World → Prop} {Q : Exit → Act → World → Prop} {s x : Operand} {base G : Nat} {v : Value} {l : List Tl} (y : Tl)
    (ho : o.op = .call { callee := .builtin .append, args := #[s, x], argTypes := #[79, 79] }) (hs : a.eval s = v) (hx : a.eval x = .slice (some ⟨G, 0, none⟩) 1 1)
    (hO : OwnTl w base v l) (hG : Blk w G 85 (tlC y)) (hlen : l.length ≤ 100000) (hbase : base ≤ w.heap.size)
    (h : ∀ v' w', OwnTl w' base v' (l ++ [y]) → Below base w w' → w.grownBy w' v.ownBlock → K (a.put o.dst v') w') : Oper.wp Tryz.prog o a w K Q := by
  obtain ⟨i0, hi, hz0, hz1, hz2⟩ := info_parts Tryz.tlParts
  have hnews : ∀ (j : Nat) u, (tlC y).toList[j]? = some u → w.cell? ((⟨G, 0, none⟩ : Addr).add j) = some u := fun j u hu => by
    rw [Addr.add_lit, Nat.zero_add]
    exact hG.cv j u (by simpa using hu)
  rcases hO with ⟨rfl, rfl⟩ | ⟨hne, g, cap, rfl, hown⟩
  · refine wp_append_lies w s x _ ho base 85 i0 (.agg (tlC zTl)) 2 24 Tryz.underlying79 hi hz0 hz1 hz2 rfl (by decide) (.slice none 0 0) 0 [] hs (World.ownsRow_nil w base _ 2) ⟨G, 0, none⟩ 1 1 (tlC y).toList hx rfl hnews (tlC_cells y) (by decide) (by unfold maxLen; omega) (by decide) hbase _ rfl ?_
    intro g cap w' hown hgrow hat hlt
    refine h _ _ (Or.inr ⟨by simp, g, cap, rfl, ?_⟩) ((Below.refl base w).grown hgrow hbase (fun q hq => by simp [Value.ownBlock] at hq)) hgrow
    rw [List.nil_append, tlR_one]
    exact hown
  · have hown' := hown
    refine wp_append_lies w s x _ ho base 85 i0 (.agg (tlC zTl)) 2 24 Tryz.underlying79 hi hz0 hz1 hz2 rfl (by decide) (.slice (some ⟨g, 0, none⟩) l.length cap) l.length (tlR l) hs hown ⟨G, 0, none⟩ 1 1 (tlC y).toList hx rfl hnews (tlC_cells y) (by decide) (by unfold maxLen; omega) (by omega) hbase _ rfl ?_
    intro g' cap' w' hown2 hgrow hat hlt
    obtain ⟨cur, hB, hge⟩ : ∃ cur, Blk w g 85 cur ∧ base ≤ g := by
      rcases hown'.2 with ⟨h1, -⟩ | ⟨g1, cap1, cur1, e1, e2, e3, -⟩
      · cases h1
      · cases e1
        exact ⟨cur1, e3, e2⟩
    refine h _ _ (Or.inr ⟨by simp, g', cap', by rw [List.length_append]; rfl, ?_⟩) ((Below.refl base w).grown hgrow hbase (fun q hq => by cases hq; exact hge)) hgrow
    rw [tlR_snoc, List.length_append]
    exact hown2
/-- Of one alone. -/
theorem slice_tl {o : Oper} {a : Act} {w : World} {K : Act → World → Prop} {Q : Exit → Act → World → Prop} {x : Operand} (y : Tl) (ho : o.op = .buildSlice 79 1 #[(0, x)]) (hx : a.eval x = .agg (tlC y))
    (h : ∀ w1, Blk w1 w.heap.size 85 (tlC y) → Below w.heap.size w w1 → w.heap.size < w1.heap.size → K (a.put o.dst (.slice (some ⟨w.heap.size, 0, none⟩) 1 1)) w1) : Oper.wp Tryz.prog o a w K Q := by
  obtain ⟨i0, hi, hz0, hz1, hz2⟩ := info_parts Tryz.tlParts
  refine wp_buildSlice 79 85 1 _ ho (tlC y) i0 (.agg (tlC zTl)) Tryz.underlying79 hi hz0 (by rw [hz1]; decide) (by rw [hz1]; decide) (by rw [hz1]; simp only [List.map_toArray, List.map_cons, List.map_nil, hx]; exact fill_tl y) (h _ (Blk.new w _ _) ((Below.refl _ _).alloc (Nat.le_refl _) _) (Blk.new w _ _).lt)
theorem sliceL_tl {ops : Array Oper} {rest : List Oper} {o : Oper} {a : Act} {w : World} {Q : Exit → Act → World → Prop} {x : Operand} (y : Tl) (hg : o.guard = none) (ho : o.op = .buildSlice 79 1 #[(0, x)]) (hx : a.eval x = .agg (tlC y))
    (h : ∀ w1, Blk w1 w.heap.size 85 (tlC y) → Below w.heap.size w w1 → w.heap.size < w1.heap.size → wpList Tryz.prog ops Q rest (a.put o.dst (.slice (some ⟨w.heap.size, 0, none⟩) 1 1)) w1) : wpList Tryz.prog ops Q (o :: rest) a w :=
  wpList_plain hg fun _ hK => slice_tl y ho hx fun w1 hB hb hs => hK _ _ (h w1 hB hb hs)
theorem appendL_tl {ops : Array Oper} {rest : List Oper} {o : Oper} {a : Act} {w : World} {Q : Exit → Act → World → Prop} {s x : Operand} {base G : Nat} {v : Value} {l : List Tl} (y : Tl) (hg : o.guard = none)
    (ho : o.op = .call { callee := .builtin .append, args := #[s, x], argTypes := #[79, 79] }) (hs : a.eval s = v) (hx : a.eval x = .slice (some ⟨G, 0, none⟩) 1 1)
    (hO : OwnTl w base v l) (hG : Blk w G 85 (tlC y)) (hlen : l.length ≤ 100000) (hbase : base ≤ w.heap.size)
    (h : ∀ v' w', OwnTl w' base v' (l ++ [y]) → Below base w w' → w.grownBy w' v.ownBlock → wpList Tryz.prog ops Q rest (a.put o.dst v') w') : wpList Tryz.prog ops Q (o :: rest) a w :=
  wpList_plain hg fun _ hK => append_tl y ho hs hx hO hG hlen hbase fun v' w' h1 h2 h3 => hK _ _ (h v' w' h1 h2 h3)

end Go.Proofs.YtcijhmbimbejfaaGreatDoor

namespace Go.Proofs.YtcijhmbimbejfaaGreatDoor
open Go.RowKit
attribute [local go_sem ↓] Go.wp_at_zero Go.wp_at_succ
set_option linter.unusedSimpArgs false
set_option linter.unusedVariables false
set_option maxRecDepth 100000

/-- A cell that holds a list of records of its own. -/
def AcTl (w : World) (B : Nat) (l : List Tl) : Prop := ∃ a c, Blk w B 79 #[.slice a l.length c] ∧ OwnTl w (B + 1) (.slice a l.length c) l
theorem AcTl.kept {w w' : World} {B : Nat} {l : List Tl} (h : AcTl w B l) (hb : Below w.heap.size w w') : AcTl w' B l := by
  obtain ⟨a, c, h1, h2⟩ := h
  exact ⟨a, c, h1.kept hb, h2.kept hb⟩
theorem AcTl.drew {w : World} {B : Nat} {l : List Tl} (h : AcTl w B l) : AcTl w.drew B l := h
/-- Blocks of other types are as they were. -/
def KeepL (w w' : World) : Prop := ∀ X T C, Blk w X T C → T ≠ 85 → T ≠ 79 → Blk w' X T C
theorem KeepL.of {w w' : World} (h : Below w.heap.size w w') : KeepL w w' := fun _ _ _ hB _ _ => hB.kept h
theorem KeepL.trans {w w' w'' : World} (h : KeepL w w') (h' : KeepL w' w'') : KeepL w w'' := fun X T C hB h1 h2 => h' X T C (h X T C hB h1 h2) h1 h2
theorem blk_type {w : World} {X : Nat} {T T' : TypeId} {C D : Array Value} (h : Blk w X T C) (h' : Blk w X T' D) : T = T' := by
  have h1 : w.heap[X]? = some (.cells C T (0, 0)) := h
  have h2 : w.heap[X]? = some (.cells D T' (0, 0)) := h'
  rw [h1] at h2
  injection h2 with h2
  injection h2
theorem KeepL.row {w w' : World} {B : Nat} {v : Value} {l : List Tl} (hO : OwnTl w B v l) (hg : w.grownBy w' v.ownBlock) : KeepL w w' := fun X T C hX h1 h2 => by
  refine hX.grown hg ?_
  rcases hO.blk with e | ⟨g, D, e, _, hg2⟩
  · rw [e]
    intro q
    cases q
  · rw [e]
    intro q
    cases q
    exact h1 (blk_type hX hg2)
theorem KeepL.cell {w w' : World} {B : Nat} {D : Array Value} (hB : Blk w B 79 D) (hg : w.grownBy w' (some B)) : KeepL w w' := fun X T C hX h1 h2 => by
  refine hX.grown hg ?_
  intro q
  cases q
  exact h2 (blk_type hX hB)
def kTl (k : Int) (l : List ByteArray) : List Tl := l.map fun s => ⟨k, s⟩
theorem kTl_take (k : Int) (l : List ByteArray) (i : Nat) (hi : i < l.length) : kTl k (l.take (i + 1)) = kTl k (l.take i) ++ [⟨k, l[i]⟩] := by
  unfold kTl
  rw [List.take_add_one, List.getElem?_eq_getElem hi, List.map_append]
  rfl

set_option maxHeartbeats 3200000 in
theorem add_core (B : Nat) (kind : Int) (a : Option Addr) (c : Nat) (l : List ByteArray) (m : List Tl) (w : World) (hA : AcTl w B m)
    (hc : ∀ (k : Nat) (hk : k < l.length) (wr : World), (k = 0 → wr = w) → Below B w wr → ∃ b o, a = some ⟨b, o, none⟩ ∧ wr.cell? ⟨b, o + k, none⟩ = some (.string l[k])) (hlen : m.length + l.length ≤ 1000) :
    Calls Tryz.prog 72 #[.int .i64 kind, .slice a l.length c, .pointer (some ⟨B, 0, none⟩)] w fun e w' => e = .returned (.tuple #[]) ∧ AcTl w' B (m ++ kTl kind l) ∧ Below B w w' ∧ KeepL w w' := by
  have HC := Lib.hid hc
  clear hc
  go_enter Tryz.func72, Tryz.ntmps72
  go_wp2_with fail
  go_loopw [9] (fun i wr => ∃ k : Nat, k ≤ l.length ∧ i = .int .i64 k ∧ AcTl wr B (m ++ kTl kind (l.take k)) ∧ Below B w wr ∧ KeepL w wr ∧ (k = 0 → wr = w)) (fun i _ => l.length - (intOf i).toNat)
  case atStart => exact ⟨0, by omega, rfl, by rw [List.take_zero]; simpa [kTl] using hA, Below.refl _ _, KeepL.of (Below.refl _ _), fun _ => rfl⟩
  case round =>
    obtain ⟨k, hk, rfl, hAk, Bk, Kk, h0⟩ := hrel
    by_cases hlt : k < l.length
    · obtain ⟨b, o, rfl, hcell⟩ := HC.out k hlt wr h0 Bk
      have q1 : (k : Int) < (l.length : Int) := by omega
      have q2 : decide ((k : Int) < (l.length : Int)) = true := decide_eq_true q1
      have q3 : (0 : Int) ≤ (k : Int) := by omega
      have HT := Lib.hid (kTl_take kind l k hlt)
      have hml : Hid ((m ++ kTl kind (l.take k)).length ≤ 1000) := by
        show _ ≤ _
        rw [List.length_append]
        unfold kTl
        rw [List.length_map, List.length_take]
        omega
      obtain ⟨a1, c1, HB1, HO1⟩ := hAk
      have c0 := HB1.cv 0 _ rfl
      have hB1 := HB1.lt
      generalize l[k] = x at *
      generalize hmm : m ++ kTl kind (l.take k) = mm at *
      have HMM := Lib.hid hmm
      clear hmm h0 HC
      go_wp2_with (first
        | (refine build_blk (t := 85) (tlC ⟨kind, x⟩) (by rfl) rfl (by kernel_rfl) ?_)
        | (refine sliceL_tl ⟨kind, x⟩ rfl rfl rfl (fun w2 HG2 b2 hlt2 => ?_); have HB2 := HB1.kept b2; have HO2 := HO1.kept b2; have B2 := Bk.trans (b2.mono (Nat.le_of_lt hB1)); have hB2 : B + 1 ≤ w2.heap.size := Nat.le_trans hB1 b2.size; have K2 := Kk.trans (KeepL.of b2))
        | (refine appendL_tl ⟨kind, x⟩ rfl rfl rfl rfl HO2 HG2 (by have := hml.out; omega) hB2 (fun v3 w3 HO3 b3 g3 => ?_); have HB3 := HB2.below b3 (Nat.lt_succ_self B); have K3 := K2.trans (KeepL.row HO2 g3); have B3 := B2.trans (b3.mono (Nat.le_succ B)); obtain ⟨a3, c3, hv3, _⟩ := HO3.inL; subst hv3)
        | (refine store_blk (k := 0) 79 _ #[_] (by rfl) rfl rfl rfl HB3 (by kernel_rfl) (show (1 : Nat) ≤ 1 from Nat.le_refl 1) (by rfl) (by rfl) (fun w4 HB4 b4 g4 => ?_); have HO4 := HO3.other HB3 (by decide) g4; have B4 := B3.trans b4; have K4 := K3.trans (KeepL.cell HB3 g4)))
      go_roundw
      case rel => exact ⟨k + 1, by omega, by go_num, by
        rw [HT.out, ← List.append_assoc, HMM.out]
        exact ⟨_, _, HB4, HO4⟩, B4, K4, by omega⟩
      case measure => simp [intOf]; omega
    · obtain rfl : k = l.length := by omega
      have q2 : decide ((l.length : Int) < (l.length : Int)) = false := decide_eq_false (by omega)
      rw [List.take_length] at hAk
      go_wp2
      go_end0
      exact ⟨rfl, hAk, Bk, Kk⟩
/-- Texts that lie ahead of the cell. -/
theorem add_far (B : Nat) (kind : Int) (a : Option Addr) (c : Nat) (l : List ByteArray) (m : List Tl) (w0 w : World) (hA : AcTl w B m) (h : StIn w0 a l) (h0 : Below w0.heap.size w0 w) (hB : w0.heap.size ≤ B) (hlen : m.length + l.length ≤ 1000) :
    Calls Tryz.prog 72 #[.int .i64 kind, .slice a l.length c, .pointer (some ⟨B, 0, none⟩)] w fun e w' => e = .returned (.tuple #[]) ∧ AcTl w' B (m ++ kTl kind l) ∧ Below B w w' ∧ KeepL w w' := by
  refine add_core B kind a c l m w hA (fun k hk wr _ hb => ?_) hlen
  obtain ⟨b, o, rfl, hbl, hat⟩ := (h.below (h0.trans (hb.mono hB))).at hk
  refine ⟨b, o, rfl, ?_⟩
  have q := hat k hk 0 (.string l[k]) rfl
  rw [Nat.mul_one, Nat.add_zero] at q
  exact q
/-- A text alone. -/
theorem add_one (B : Nat) (kind : Int) (y : ByteArray) (m : List Tl) (w : World) (G : Nat) (hA : AcTl w B m) (hG : Blk w G 9 (stC y)) (hlen : m.length + 1 ≤ 1000) :
    Calls Tryz.prog 72 #[.int .i64 kind, .slice (some ⟨G, 0, none⟩) 1 1, .pointer (some ⟨B, 0, none⟩)] w fun e w' => e = .returned (.tuple #[]) ∧ AcTl w' B (m ++ [⟨kind, y⟩]) ∧ Below B w w' ∧ KeepL w w' := by
  refine add_core B kind (some ⟨G, 0, none⟩) 1 [y] m w hA (fun k hk wr h0 hb => ?_) hlen
  have : k = 0 := by simp at hk; omega
  subst this
  cases h0 rfl
  exact ⟨G, 0, rfl, hG.cv 0 (.string y) rfl⟩

end Go.Proofs.YtcijhmbimbejfaaGreatDoor

