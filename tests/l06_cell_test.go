package tests

import (
	"bytes"
	"encoding/binary"
	"fmt"
	"math"
	"slices"
	"testing"

	"loop.example/g00792/impl"
)

// The cells of the tests' own reckoning: their texts place by place, and their boxes by what the tests know of those.

func plainBy(c impl.Cell) []byte {
	out := []byte{byte(c.Kind)}
	out = binary.BigEndian.AppendUint16(out, uint16(c.Seq))
	out = binary.BigEndian.AppendUint16(out, uint16(c.Ack))
	out = append(out, byte(c.Mask), 0, byte(len(c.Body)))
	if c.Last {
		out[6] = 1
	}
	out = append(out, c.Body...)
	return append(out, make([]byte, 44-len(out))...)
}

// decodedBy asks each place of a text of 44 bytes, and encodes nothing.
func decodedBy(plain []byte) (impl.Cell, bool) {
	seq, ack := int64(binary.BigEndian.Uint16(plain[1:])), int64(binary.BigEndian.Uint16(plain[3:]))
	size := int(plain[7])
	if plain[0] > 1 || seq > 9999 || ack > 10000 || plain[6] > 1 || size > 32 {
		return impl.Cell{}, false
	}
	if plain[0] == 0 && (seq > 0 || plain[6] == 1 || size > 0) {
		return impl.Cell{}, false
	}
	if !bytes.Equal(plain[8+size:], make([]byte, 36-size)) {
		return impl.Cell{}, false
	}
	return impl.Cell{Kind: int64(plain[0]), Seq: seq, Ack: ack, Mask: int64(plain[5]), Last: plain[6] == 1, Body: plain[8 : 8+size]}, true
}

func headBy(slot int64) []byte {
	return binary.BigEndian.AppendUint32(nil, uint32(slot))
}

// wireBy seals any text, be it a cell or not.
func wireBy(key []byte, slot int64, plain []byte) []byte {
	return append(headBy(slot), sealBy(key, nonceBy(slot), headBy(slot), plain)...)
}

func cellFaultBy(c impl.Cell) int64 {
	if c.Kind != 0 && c.Kind != 1 {
		return impl.ErrForm
	}
	if c.Kind == 0 && (c.Seq != 0 || c.Last || len(c.Body) != 0) {
		return impl.ErrForm
	}
	if c.Seq < 0 || c.Seq > 9999 || c.Ack < 0 || c.Ack > 10000 || c.Mask < 0 || c.Mask > 255 {
		return impl.ErrRange
	}
	if len(c.Body) > 32 {
		return impl.ErrMany
	}
	return impl.OK
}

func cellName(c impl.Cell) string {
	return fmt.Sprintf("a cell of Kind %d, Seq %d, Ack %d, Mask %d, Last %v, a Body of %d bytes", c.Kind, c.Seq, c.Ack, c.Mask, c.Last, len(c.Body))
}

func sameCell(a, b impl.Cell) bool {
	return a.Kind == b.Kind && a.Seq == b.Seq && a.Ack == b.Ack && a.Mask == b.Mask && a.Last == b.Last && bytes.Equal(a.Body, b.Body)
}

func wantCell(t *testing.T, what string, got impl.CellResult, slot int64, cell impl.Cell) {
	t.Helper()
	if got.Code != impl.OK || got.Slot != slot || !sameCell(got.Cell, cell) {
		t.Errorf("%s: %v; want code 0, slot %d, %v", what, got, slot, cell)
	}
}

func wantCellCode(t *testing.T, what string, got impl.CellResult, code int64) {
	t.Helper()
	if got.Code != code || got.Slot != 0 || !sameCell(got.Cell, impl.Cell{}) {
		t.Errorf("%s: %v; want code %d, all else zero", what, got, code)
	}
}

func TestCellNumbers(t *testing.T) {
	if impl.CellSize != 64 || impl.PlainSize != 44 || impl.BodySize != 32 {
		t.Errorf("CellSize is %d, PlainSize is %d, BodySize is %d", impl.CellSize, impl.PlainSize, impl.BodySize)
	}
	if impl.MaxSeq != 9999 || impl.MaxSlot != 400 || impl.KindDummy != 0 || impl.KindData != 1 {
		t.Errorf("MaxSeq is %d, MaxSlot is %d, KindDummy is %d, KindData is %d", impl.MaxSeq, impl.MaxSlot, impl.KindDummy, impl.KindData)
	}
}

// The kinds, numbers and sizes at their bounds and just past them; some would be so if only their lowest byte, or two, or four, were looked at.
var (
	cellKinds = []int64{math.MinInt64, -1, 0, 1, 2, 3, 255, 256, 257, 1 << 32, 1<<32 + 1, math.MaxInt64}
	cellSeqs  = []int64{math.MinInt64, -65535, -1, 0, 1, 258, 9998, 9999, 10000, 10001, 65536, 65537, 1 << 32, math.MaxInt64}
	cellAcks  = []int64{math.MinInt64, -65535, -1, 0, 1, 258, 9999, 10000, 10001, 10002, 65536, 65537, 1 << 32, math.MaxInt64}
	cellMasks = []int64{math.MinInt64, -256, -1, 0, 1, 254, 255, 256, 257, 1 << 32, math.MaxInt64}
	bodySizes = []int{0, 1, 31, 32, 33, 36, 37, 255, 256, 257, 1001}
)

// eachCell are cells of all that stands above, those with a fault and those without.
func eachCell(yield func(c impl.Cell, fault int64) bool) {
	var bodies [][]byte
	for _, size := range bodySizes {
		bodies = append(bodies, listOf(size, 1, 3))
	}
	for _, kind := range cellKinds {
		for _, seq := range cellSeqs {
			for _, ack := range cellAcks {
				for _, mask := range cellMasks {
					for _, body := range bodies {
						for _, last := range []bool{false, true} {
							c := impl.Cell{Kind: kind, Seq: seq, Ack: ack, Mask: mask, Last: last, Body: body}
							if !yield(c, cellFaultBy(c)) {
								return
							}
						}
					}
				}
			}
		}
	}
}

func TestCellFaultTyped(t *testing.T) {
	full, more := make([]byte, 32), make([]byte, 33)
	for _, c := range []struct {
		cell impl.Cell
		want int64
	}{
		{impl.Cell{}, impl.OK},
		{impl.Cell{Body: []byte{}}, impl.OK},
		{impl.Cell{Ack: 10000, Mask: 255}, impl.OK},
		{impl.Cell{Kind: 1}, impl.OK},
		{impl.Cell{Kind: 1, Body: []byte{}}, impl.OK},
		{impl.Cell{Kind: 1, Last: true}, impl.OK},
		{impl.Cell{Kind: 1, Seq: 9999, Ack: 10000, Mask: 255, Last: true, Body: full}, impl.OK},
		{impl.Cell{Kind: -1}, impl.ErrForm},
		{impl.Cell{Kind: 2}, impl.ErrForm},
		{impl.Cell{Seq: 1}, impl.ErrForm},
		{impl.Cell{Seq: -1}, impl.ErrForm},
		{impl.Cell{Last: true}, impl.ErrForm},
		{impl.Cell{Body: []byte{0}}, impl.ErrForm},
		{impl.Cell{Ack: -1}, impl.ErrRange},
		{impl.Cell{Ack: 10001}, impl.ErrRange},
		{impl.Cell{Mask: -1}, impl.ErrRange},
		{impl.Cell{Mask: 256}, impl.ErrRange},
		{impl.Cell{Kind: 1, Seq: -1}, impl.ErrRange},
		{impl.Cell{Kind: 1, Seq: 10000}, impl.ErrRange},
		{impl.Cell{Kind: 1, Ack: -1}, impl.ErrRange},
		{impl.Cell{Kind: 1, Ack: 10001}, impl.ErrRange},
		{impl.Cell{Kind: 1, Mask: -1}, impl.ErrRange},
		{impl.Cell{Kind: 1, Mask: 256}, impl.ErrRange},
		{impl.Cell{Kind: 1, Body: more}, impl.ErrMany},
		// ErrForm is asked ahead of ErrRange, and that ahead of ErrMany.
		{impl.Cell{Kind: 2, Seq: 10000, Ack: 10001, Mask: 256, Body: more}, impl.ErrForm},
		{impl.Cell{Seq: 10000}, impl.ErrForm},
		{impl.Cell{Seq: 1, Ack: 10001}, impl.ErrForm},
		{impl.Cell{Last: true, Mask: 256}, impl.ErrForm},
		{impl.Cell{Body: more, Mask: 256}, impl.ErrForm},
		{impl.Cell{Body: more}, impl.ErrForm},
		{impl.Cell{Kind: 1, Seq: 10000, Body: more}, impl.ErrRange},
		{impl.Cell{Kind: 1, Ack: 10001, Body: more}, impl.ErrRange},
		{impl.Cell{Kind: 1, Mask: 256, Body: more}, impl.ErrRange},
	} {
		if got := impl.CellFault(c.cell); got != c.want {
			t.Errorf("CellFault of %s: %d; want %d", cellName(c.cell), got, c.want)
		}
	}
}

func TestCellFaultEdges(t *testing.T) {
	for c, want := range eachCell {
		if got := impl.CellFault(c); got != want {
			t.Errorf("CellFault of %s: %d; want %d", cellName(c), got, want)
		}
	}
}

// someCells have no fault; some have a Body of zeros, or one that ends by such.
func someCells() []impl.Cell {
	out := []impl.Cell{
		{}, {Ack: 10000, Mask: 255}, {Ack: 1}, {Ack: 258, Mask: 1}, {Mask: 128},
		{Kind: 1}, {Kind: 1, Last: true}, {Kind: 1, Body: []byte{0}}, {Kind: 1, Body: make([]byte, 32)},
		{Kind: 1, Seq: 1, Ack: 2, Mask: 3, Body: []byte{1, 0}},
		{Kind: 1, Seq: 258, Ack: 772, Mask: 5, Last: true, Body: []byte{0, 0, 7, 0, 0}},
		{Kind: 1, Seq: 9999, Ack: 10000, Mask: 255, Last: true, Body: bytes.Repeat([]byte{255}, 32)},
	}
	for i, size := range []int{0, 1, 2, 15, 16, 31, 32} {
		seq := []int64{0, 1, 255, 256, 257, 9998, 9999}[i]
		out = append(out, impl.Cell{Kind: 1, Seq: seq, Ack: 10000 - seq, Mask: int64(i * 42), Last: size%2 == 1, Body: listOf(size, 40, 11)})
	}
	return out
}

// typedCells are cells with what comes of them, reckoned outside the project (struct, and the package cryptography, of Python).
var typedCells = []struct {
	key  []byte
	slot int64
	cell impl.Cell
	// The text and the wire, both in two digits a byte.
	plain, wire string
}{
	{
		make([]byte, 32), 0, impl.Cell{},
		"0000000000000000000000000000000000000000000000000000000000000000000000000000000000000000",
		"000000009f07e7be5551387a98ba977c732d080dcb0f29a048e3656912c6533e32ee7aed29b721769ce64e43d57133b087f1803633ac5d304e9aa6bac5001292",
	},
	{
		make([]byte, 32), 300, impl.Cell{Kind: 1, Seq: 258, Ack: 3, Mask: 5, Last: true, Body: []byte{9, 8}},
		"0101020003050102090800000000000000000000000000000000000000000000000000000000000000000000",
		"0000012ca666ba9e06cc79498f6a4b60bb6b5ea70b52d5a259689d6e0844e5368d2d685619dd7e62fee025b4b61f468dadd0f6342d89747b4e8d81c3a0901338",
	},
	{
		listOf(32, 0, 1), 1, impl.Cell{Ack: 10000, Mask: 255},
		"0000002710ff0000000000000000000000000000000000000000000000000000000000000000000000000000",
		"000000019f57f378a5d5af1829b6ae5c52959987c57deb0e476b60adc364b55b8de8dda4d84ad6ace4c8df8b842bf49fe0d914fc9c6471024d63ab3bc07e984a",
	},
	{
		listOf(32, 0, 1), 400, impl.Cell{Kind: 1, Seq: 9999, Ack: 10000, Mask: 255, Last: true, Body: listOf(32, 100, 1)},
		"01270f2710ff01206465666768696a6b6c6d6e6f707172737475767778797a7b7c7d7e7f8081828300000000",
		"0000019061b7514eb374935eb2c041680ca00a0441ced804c34d4c4add187ed74f730884e10a63a7a399c293f3476aa2a22a030c057a5dc884d4617385f5953f",
	},
	{
		bytes.Repeat([]byte{255}, 32), 256, impl.Cell{Kind: 1},
		"0100000000000000000000000000000000000000000000000000000000000000000000000000000000000000",
		"00000100af908abd057f762fd1727cd752cf680bb57d40f66729840177b3967093679b058724ab4a57bbdc23a21c41958b775bb6821ceaa41c970198bfcee648",
	},
}

func TestCellKnownAnswers(t *testing.T) {
	for _, c := range typedCells {
		what, plain, wire := cellName(c.cell), fromHex(t, c.plain), fromHex(t, c.wire)
		wantBytes(t, "EncodeCell of "+what, impl.EncodeCell(c.cell), plain)
		wantCell(t, "DecodeCell of that of "+what, impl.DecodeCell(plain), 0, c.cell)
		wantBytes(t, "SealCell of "+what, impl.SealCell(c.key, c.slot, c.cell), wire)
		wantInt(t, "SlotOf that of "+what, impl.SlotOf(wire), c.slot)
		wantCell(t, "OpenCell of that of "+what, impl.OpenCell(c.key, wire), c.slot, c.cell)
	}
}

// Promise 7: cells are read back from their bytes, which are PlainSize of each.
func TestEncodeCellEdges(t *testing.T) {
	for c, fault := range eachCell {
		got := impl.EncodeCell(c)
		if fault != impl.OK {
			wantBytesCode(t, "EncodeCell of "+cellName(c), got, fault)
			continue
		}
		wantBytes(t, "EncodeCell of "+cellName(c), got, plainBy(c))
		wantCell(t, "DecodeCell of "+cellName(c), impl.DecodeCell(got.Bytes), 0, c)
	}
	for _, c := range someCells() {
		wantBytes(t, "EncodeCell of "+cellName(c), impl.EncodeCell(c), plainBy(c))
		wantCell(t, "DecodeCell of "+cellName(c), impl.DecodeCell(plainBy(c)), 0, c)
	}
}

// A Body of zeros looks as the zeros behind it do: only how many bytes it has tells them apart.
func TestNoTwoCellsHaveOneText(t *testing.T) {
	seen := map[string]bool{}
	for size := range 33 {
		for _, last := range []bool{false, true} {
			c := impl.Cell{Kind: 1, Last: last, Body: make([]byte, size)}
			text := impl.EncodeCell(c).Bytes
			wantCell(t, "DecodeCell of that of "+cellName(c), impl.DecodeCell(text), 0, c)
			seen[string(text)] = true
		}
	}
	if len(seen) != 66 {
		t.Errorf("only %d texts are different", len(seen))
	}
}

func TestDecodeCellOfNotPlainSize(t *testing.T) {
	for _, c := range someCells() {
		plain := plainBy(c)
		for size := range 44 {
			what := fmt.Sprintf("DecodeCell of the first %d bytes of that of %s", size, cellName(c))
			wantCellCode(t, what, impl.DecodeCell(plain[:size]), impl.ErrMany)
		}
		for _, size := range []int{1, 2, 16, 20, 44, 1000} {
			what := fmt.Sprintf("DecodeCell of that of %s, and %d bytes", cellName(c), size)
			wantCellCode(t, what, impl.DecodeCell(append(plainBy(c), make([]byte, size)...)), impl.ErrMany)
		}
	}
	wantCellCode(t, "DecodeCell of nil", impl.DecodeCell(nil), impl.ErrMany)
	wantCellCode(t, "DecodeCell of no bytes", impl.DecodeCell([]byte{}), impl.ErrMany)
	// ErrMany is asked ahead of ErrText.
	for _, size := range []int{1, 43, 45, 64} {
		wantCellCode(t, fmt.Sprintf("DecodeCell of %d bytes 255", size), impl.DecodeCell(bytes.Repeat([]byte{255}, size)), impl.ErrMany)
	}
}

func putAt(data []byte, at int, put ...byte) []byte {
	out := bytes.Clone(data)
	copy(out[at:], put)
	return out
}

// noCells are texts of 44 bytes of which no cell is encoded.
func noCells() map[string][]byte {
	dummy := plainBy(impl.Cell{Ack: 3, Mask: 4})
	data := plainBy(impl.Cell{Kind: 1, Seq: 1, Ack: 2, Mask: 3, Last: true, Body: []byte{6, 7}})
	full := plainBy(impl.Cell{Kind: 1, Body: bytes.Repeat([]byte{9}, 32)})
	return map[string][]byte{
		"Kind 2": putAt(data, 0, 2), "Kind 128": putAt(data, 0, 128), "Kind 255": putAt(data, 0, 255),
		"Kind 2 of zeros": putAt(make([]byte, 44), 0, 2),
		"Seq 10000":       putAt(data, 1, 39, 16), "Seq 65535": putAt(data, 1, 255, 255),
		"Ack 10001": putAt(data, 3, 39, 17), "Ack 65535": putAt(data, 3, 255, 255),
		"Ack 10001 of a dummy": putAt(dummy, 3, 39, 17),
		"Last 2":               putAt(data, 6, 2), "Last 255": putAt(data, 6, 255), "Last 3": putAt(data, 6, 3),
		"a Body of 1 and one behind": putAt(data, 7, 1), "a Body of none and two behind": putAt(data, 7, 0),
		"a Body of 33": putAt(data, 7, 33), "a Body of 36": putAt(data, 7, 36), "a Body of 37": putAt(data, 7, 37),
		"a Body of 44": putAt(data, 7, 44), "a Body of 255": putAt(data, 7, 255), "a Body of 128": putAt(data, 7, 128),
		"a Body of 33, all there": putAt(full, 7, 33), "a Body of 36, all there": putAt(putAt(full, 7, 36), 40, 9, 9, 9, 9),
		"a Body of 31 and one behind": putAt(full, 7, 31),
		"a byte behind at once":       putAt(data, 10, 1), "a byte behind at the end": putAt(data, 43, 1),
		"a byte behind in the middle": putAt(data, 25, 255), "a byte behind a full Body": putAt(full, 40, 1),
		"a dummy with a Seq": putAt(dummy, 2, 1), "a dummy with a Seq of 256": putAt(dummy, 1, 1),
		"a dummy with Last": putAt(dummy, 6, 1), "a dummy with Last 2": putAt(dummy, 6, 2),
		"a dummy with a Body": putAt(dummy, 7, 1, 5), "a dummy with a Body of zero": putAt(dummy, 7, 1),
		"a dummy with a Body of 33": putAt(dummy, 7, 33), "a dummy with all of data": putAt(data, 0, 0),
		"a dummy and a byte behind": putAt(dummy, 8, 1), "a dummy and a byte at the end": putAt(dummy, 43, 128),
		"44 bytes 255": bytes.Repeat([]byte{255}, 44), "44 bytes 1": bytes.Repeat([]byte{1}, 44),
	}
}

func TestDecodeCellOfNoCell(t *testing.T) {
	for name, plain := range noCells() {
		if len(plain) != 44 {
			t.Errorf("%s: %d bytes", name, len(plain))
		}
		wantCellCode(t, "DecodeCell of "+name, impl.DecodeCell(plain), impl.ErrText)
	}
}

func wantDecoded(t *testing.T, plain []byte) {
	t.Helper()
	what, got := fmt.Sprintf("DecodeCell of %v", plain), impl.DecodeCell(plain)
	if c, ok := decodedBy(plain); ok {
		wantCell(t, what, got, 0, c)
		wantBytes(t, "EncodeCell of the "+what, impl.EncodeCell(got.Cell), plain)
	} else {
		wantCellCode(t, what, got, impl.ErrText)
	}
}

func TestDecodeCellTurnedAtEachPlace(t *testing.T) {
	for _, c := range someCells() {
		for at := range 44 {
			for put := range 256 {
				wantDecoded(t, putAt(plainBy(c), at, byte(put)))
			}
		}
	}
}

func TestDecodeCellEdges(t *testing.T) {
	for _, kind := range []byte{0, 1, 2, 255} {
		for _, seq := range []uint16{0, 1, 256, 9999, 10000, 65535} {
			for _, ack := range []uint16{0, 256, 10000, 10001, 65535} {
				for _, last := range []byte{0, 1, 2, 255} {
					for _, size := range []byte{0, 1, 31, 32, 33, 36, 37, 255} {
						head := binary.BigEndian.AppendUint16([]byte{kind}, seq)
						head = append(binary.BigEndian.AppendUint16(head, ack), 7, last, size)
						for _, filled := range []int{0, 1, 31, 32, 33, 36} {
							wantDecoded(t, putAt(putAt(make([]byte, 44), 0, head...), 8, bytes.Repeat([]byte{5}, filled)...))
						}
					}
				}
			}
		}
	}
}

var noSlots = []int64{math.MinInt64, -1 << 32, -256, -2, -1, 401, 402, 512, 65536, 1 << 24, 1 << 31, 1 << 32, 1<<32 + 1, math.MaxInt64}
var edgeSlots = []int64{0, 1, 2, 127, 128, 255, 256, 257, 300, 399, 400}

// Promise 7: a cell that is sealed for a slot is opened by whoever has the key, and tells its slot to all.
func TestSealCellEdges(t *testing.T) {
	for _, key := range cipherKeys() {
		for _, slot := range edgeSlots {
			for _, c := range someCells() {
				what := fmt.Sprintf("%s at %d by %v", cellName(c), slot, key)
				got := impl.SealCell(key, slot, c)
				wantBytes(t, "SealCell of "+what, got, wireBy(key, slot, plainBy(c)))
				if len(got.Bytes) != 64 {
					t.Errorf("SealCell of %s has %d bytes", what, len(got.Bytes))
				}
				wantInt(t, "SlotOf "+what, impl.SlotOf(got.Bytes), slot)
				wantCell(t, "OpenCell of "+what, impl.OpenCell(key, got.Bytes), slot, c)
			}
		}
	}
}

// Each slot has a wire of its own, of which no byte behind the slot tells whether there is something to say.
func TestSealCellOfEachSlot(t *testing.T) {
	key, seen := listOf(32, 7, 5), map[string]bool{}
	for slot := range int64(401) {
		for _, c := range []impl.Cell{{}, {Kind: 1, Seq: slot, Ack: slot + 1, Last: true, Body: listOf(32, byte(slot), 1)}} {
			got := impl.SealCell(key, slot, c)
			wantBytes(t, fmt.Sprintf("SealCell of %s at %d", cellName(c), slot), got, wireBy(key, slot, plainBy(c)))
			wantInt(t, fmt.Sprintf("SlotOf a wire of %d", slot), impl.SlotOf(got.Bytes), slot)
			wantCell(t, fmt.Sprintf("OpenCell at %d", slot), impl.OpenCell(key, got.Bytes), slot, c)
			seen[string(got.Bytes[4:])] = true
		}
	}
	if len(seen) != 802 {
		t.Errorf("only %d boxes are different", len(seen))
	}
}

// The document's own words for a wire, by the program's own boxes.
func TestSealCellByItsParts(t *testing.T) {
	key := listOf(32, 7, 5)
	for _, slot := range edgeSlots {
		for _, c := range someCells() {
			head := impl.PackHigh(slot, 4).Bytes
			nonce := append(make([]byte, 4), append(impl.PackLow(slot, 7).Bytes, 0)...)
			box := impl.SealBox(key, nonce, head, impl.EncodeCell(c).Bytes).Bytes
			wantBytes(t, fmt.Sprintf("SealCell of %s at %d", cellName(c), slot), impl.SealCell(key, slot, c), slices.Concat(head, box))
		}
	}
}

var keySizes = []int{0, 1, 16, 31, 33, 64, 1001}

// ErrRange of the key and the slot is asked ahead of the CellFault, whatever that is.
func TestSealCellOutOfRange(t *testing.T) {
	key := listOf(32, 7, 5)
	cells := append(someCells(), impl.Cell{Kind: 2}, impl.Cell{Seq: 1}, impl.Cell{Ack: 10001}, impl.Cell{Kind: 1, Body: make([]byte, 33)})
	for _, c := range cells {
		for _, slot := range noSlots {
			what := fmt.Sprintf("SealCell of %s at %d", cellName(c), slot)
			wantBytesCode(t, what, impl.SealCell(key, slot, c), impl.ErrRange)
		}
		for _, size := range keySizes {
			for _, slot := range []int64{-1, 0, 7, 400, 401} {
				what := fmt.Sprintf("SealCell of %s at %d by %d bytes", cellName(c), slot, size)
				wantBytesCode(t, what, impl.SealCell(make([]byte, size), slot, c), impl.ErrRange)
			}
		}
		wantBytesCode(t, "SealCell by nil of "+cellName(c), impl.SealCell(nil, 0, c), impl.ErrRange)
	}
}

func TestSealCellWithAFault(t *testing.T) {
	key := listOf(32, 7, 5)
	for c, fault := range eachCell {
		if fault != impl.OK {
			wantBytesCode(t, "SealCell of "+cellName(c), impl.SealCell(key, 400, c), fault)
		}
	}
}

// Nobody needs a key to read a slot, nor is what stands behind it looked at.
func TestSlotOfEdges(t *testing.T) {
	for _, rest := range [][]byte{make([]byte, 60), bytes.Repeat([]byte{255}, 60), listOf(60, 3, 7)} {
		for slot := range int64(1024) {
			wire := append(headBy(slot), rest...)
			if slot <= 400 {
				wantInt(t, fmt.Sprintf("SlotOf a wire of %d", slot), impl.SlotOf(wire), slot)
			} else {
				wantIntCode(t, fmt.Sprintf("SlotOf a wire of %d", slot), impl.SlotOf(wire), impl.ErrRange)
			}
		}
		for _, slot := range []int64{65535, 65536, 65537, 1<<24 - 1, 1 << 24, 1<<24 + 300, 1<<31 - 1, 1 << 31, 1<<32 - 1} {
			wantIntCode(t, fmt.Sprintf("SlotOf a wire of %d", slot), impl.SlotOf(append(headBy(slot), rest...)), impl.ErrRange)
		}
	}
}

var wireSizes = []int{0, 1, 3, 4, 5, 19, 20, 44, 60, 63, 65, 68, 128, 1001}

// ErrMany is asked ahead of ErrRange.
func TestSlotOfNotCellSize(t *testing.T) {
	for _, size := range wireSizes {
		for _, put := range []byte{0, 1, 255} {
			what := fmt.Sprintf("SlotOf %d bytes %d", size, put)
			wantIntCode(t, what, impl.SlotOf(bytes.Repeat([]byte{put}, size)), impl.ErrMany)
		}
	}
	wantIntCode(t, "SlotOf nil", impl.SlotOf(nil), impl.ErrMany)
}

// A key that is not so is asked ahead of all that a wire may be.
func TestOpenCellByNoKey(t *testing.T) {
	key := listOf(32, 7, 5)
	wires := [][]byte{nil, {}, {1}, wireBy(key, 5, plainBy(impl.Cell{})), append(headBy(401), make([]byte, 60)...), make([]byte, 65)}
	for _, wire := range wires {
		for _, size := range keySizes {
			what := fmt.Sprintf("OpenCell of %d bytes by %d", len(wire), size)
			wantCellCode(t, what, impl.OpenCell(make([]byte, size), wire), impl.ErrRange)
		}
		wantCellCode(t, "OpenCell by nil", impl.OpenCell(nil, wire), impl.ErrRange)
		wantCellCode(t, "OpenCell by a key and a byte", impl.OpenCell(append(bytes.Clone(key), 0), wire), impl.ErrRange)
		wantCellCode(t, "OpenCell by less than a key", impl.OpenCell(key[:31], wire), impl.ErrRange)
	}
}

// The code of SlotOf is asked ahead of ErrSum, be it that the box is for this slot.
func TestOpenCellOfNoSlot(t *testing.T) {
	key := listOf(32, 7, 5)
	for _, size := range wireSizes {
		for _, put := range []byte{0, 255} {
			what := fmt.Sprintf("OpenCell of %d bytes %d", size, put)
			wantCellCode(t, what, impl.OpenCell(key, bytes.Repeat([]byte{put}, size)), impl.ErrMany)
		}
	}
	whole := wireBy(key, 5, plainBy(impl.Cell{Kind: 1}))
	wantCellCode(t, "OpenCell of less than a wire", impl.OpenCell(key, whole[:63]), impl.ErrMany)
	wantCellCode(t, "OpenCell of a wire and a byte", impl.OpenCell(key, append(bytes.Clone(whole), 0)), impl.ErrMany)
	wantCellCode(t, "OpenCell of a box alone", impl.OpenCell(key, whole[4:]), impl.ErrMany)
	wantCellCode(t, "OpenCell of nil", impl.OpenCell(key, nil), impl.ErrMany)
	for _, slot := range []int64{401, 402, 512, 65536, 1 << 24, 1 << 31, 1<<32 - 1} {
		what := fmt.Sprintf("OpenCell of a wire of %d", slot)
		wantCellCode(t, what, impl.OpenCell(key, wireBy(key, slot, plainBy(impl.Cell{}))), impl.ErrRange)
		wantCellCode(t, what+", turned", impl.OpenCell(key, append(headBy(slot), make([]byte, 60)...)), impl.ErrRange)
	}
}

func TestOpenCellTurned(t *testing.T) {
	key := listOf(32, 7, 5)
	for _, c := range []impl.Cell{{}, {Kind: 1, Seq: 258, Ack: 3, Mask: 5, Last: true, Body: []byte{9, 8}}, someCells()[11]} {
		for _, slot := range []int64{0, 1, 255, 300, 400} {
			whole := wireBy(key, slot, plainBy(c))
			for bit := range 8 * 64 {
				wire, want := turnedAt(whole, bit/8, 1<<(bit%8)), int64(impl.ErrSum)
				if binary.BigEndian.Uint32(wire) > 400 {
					want = impl.ErrRange
				}
				wantCellCode(t, fmt.Sprintf("OpenCell at %d, turned at the bit %d", slot, bit), impl.OpenCell(key, wire), want)
			}
			for bit := range 8 * 32 {
				got := impl.OpenCell(turnedAt(key, bit/8, 1<<(bit%8)), whole)
				wantCellCode(t, fmt.Sprintf("OpenCell at %d by a key, turned at the bit %d", slot, bit), got, impl.ErrSum)
			}
			wantCell(t, "OpenCell of what is not turned", impl.OpenCell(key, whole), slot, c)
		}
	}
}

// A wire is for its own slot alone, and no box is a cell that was sealed otherwise than the document says.
func TestOpenCellOfAnotherSlot(t *testing.T) {
	key, plain := listOf(32, 7, 5), plainBy(impl.Cell{Kind: 1, Seq: 3, Body: []byte{1}})
	for _, slot := range edgeSlots {
		box := wireBy(key, slot, plain)[4:]
		for other := range int64(401) {
			if other != slot {
				what := fmt.Sprintf("OpenCell of a box of %d as one of %d", slot, other)
				wantCellCode(t, what, impl.OpenCell(key, append(headBy(other), box...)), impl.ErrSum)
			}
		}
	}
	head, nonce := headBy(258), nonceBy(258)
	for name, box := range map[string][]byte{
		"no more":               sealBy(key, nonce, nil, plain),
		"the slot in 8 bytes":   sealBy(key, nonce, append(make([]byte, 4), head...), plain),
		"the lowest byte first": sealBy(key, nonce, reversed(head), plain),
		"a nonce of zeros":      sealBy(key, make([]byte, 12), head, plain),
		"a nonce from above":    sealBy(key, append(make([]byte, 8), head...), head, plain),
		"a nonce at the front":  sealBy(key, append(eightLow(258), 0, 0, 0, 0), head, plain),
	} {
		wantCellCode(t, "OpenCell, sealed with "+name, impl.OpenCell(key, append(bytes.Clone(head), box...)), impl.ErrSum)
	}
	wantCellCode(t, "OpenCell of zeros", impl.OpenCell(key, make([]byte, 64)), impl.ErrSum)
}

// What was sealed by the key, and is no cell, is told by the code of DecodeCell, and no slot with it.
func TestOpenCellOfNoCell(t *testing.T) {
	key := listOf(32, 7, 5)
	for name, plain := range noCells() {
		for _, slot := range []int64{0, 7, 400} {
			wire := wireBy(key, slot, plain)
			wantCellCode(t, fmt.Sprintf("OpenCell at %d of %s", slot, name), impl.OpenCell(key, wire), impl.ErrText)
			wantCellCode(t, fmt.Sprintf("OpenCell at %d of %s, turned", slot, name), impl.OpenCell(key, turnedAt(wire, 63, 1)), impl.ErrSum)
		}
	}
}

// anyCells are cells of all kinds, with a fault or without.
func anyCells() []impl.Cell {
	return append(someCells(),
		impl.Cell{Kind: 7, Seq: -1, Ack: -2, Mask: -3, Last: true, Body: listOf(1001, 1, 1)},
		impl.Cell{Seq: 5, Ack: 20000, Mask: 1 << 40, Last: true, Body: listOf(33, 1, 1)},
		impl.Cell{Kind: math.MinInt64, Seq: math.MaxInt64, Ack: math.MinInt64, Mask: math.MaxInt64},
	)
}

func copiedCell(c impl.Cell) impl.Cell {
	c.Body = bytes.Clone(c.Body)
	return c
}

// changedCells are cells that differ from c in one field alone.
func changedCells(c impl.Cell) map[string]impl.Cell {
	out := map[string]impl.Cell{}
	for _, by := range []int64{1, -1, 2, 256, 65536, 1 << 32, math.MinInt64} {
		for name, field := range map[string]func(*impl.Cell) *int64{
			"Kind": func(c *impl.Cell) *int64 { return &c.Kind },
			"Seq":  func(c *impl.Cell) *int64 { return &c.Seq },
			"Ack":  func(c *impl.Cell) *int64 { return &c.Ack },
			"Mask": func(c *impl.Cell) *int64 { return &c.Mask },
		} {
			other := copiedCell(c)
			*field(&other) += by
			out[fmt.Sprintf("%s, by %d", name, by)] = other
		}
	}
	other := copiedCell(c)
	other.Last = !c.Last
	out["Last"] = other
	for i := range c.Body {
		other := copiedCell(c)
		other.Body[i] ^= 1
		out[fmt.Sprintf("Body, at %d", i)] = other
	}
	for size := range c.Body {
		other := copiedCell(c)
		other.Body = other.Body[:size]
		out[fmt.Sprintf("Body, the first %d", size)] = other
	}
	other = copiedCell(c)
	other.Body = append(other.Body, 0)
	out["Body, a zero more"] = other
	return out
}

func TestSameCells(t *testing.T) {
	for _, c := range anyCells() {
		if !impl.SameCells(c, copiedCell(c)) || !impl.SameCells(copiedCell(c), c) || !impl.SameCells(c, c) {
			t.Errorf("SameCells of %s and its copy is false", cellName(c))
		}
		for name, other := range changedCells(c) {
			if impl.SameCells(c, other) || impl.SameCells(other, c) {
				t.Errorf("SameCells of %s, and another %s, is true", cellName(c), name)
			}
		}
	}
	all := anyCells()
	for i, a := range all {
		for k, b := range all {
			if got := impl.SameCells(a, b); got != (i == k) {
				t.Errorf("SameCells of %s and %s is %v", cellName(a), cellName(b), got)
			}
		}
	}
	if impl.SameCells(impl.Cell{Kind: 1, Seq: 2, Ack: 3}, impl.Cell{Kind: 1, Seq: 3, Ack: 2}) {
		t.Error("SameCells of cells of which Seq and Ack are exchanged is true")
	}
}

// An empty list and nil are the same.
func TestCellEmptyIsNil(t *testing.T) {
	for _, c := range []impl.Cell{{}, {Ack: 7}, {Kind: 1, Seq: 4, Last: true}, {Kind: 3}, {Kind: 1, Seq: -1}} {
		none, empty, roomy := c, c, c
		none.Body, empty.Body, roomy.Body = nil, []byte{}, listOf(9, 1, 1)[:0]
		for name, other := range map[string]impl.Cell{"empty": empty, "empty with room behind": roomy} {
			what := fmt.Sprintf("%s, that is %s", cellName(c), name)
			if !impl.SameCells(none, other) || !impl.SameCells(other, none) {
				t.Errorf("SameCells of %s is false", what)
			}
			if impl.CellFault(none) != impl.CellFault(other) {
				t.Errorf("CellFault of %s is another one", what)
			}
			encoded, sealed := impl.EncodeCell(other), impl.SealCell(make([]byte, 32), 9, other)
			if was := impl.EncodeCell(none); encoded.Code != was.Code || !bytes.Equal(encoded.Bytes, was.Bytes) {
				t.Errorf("EncodeCell of %s is another one", what)
			}
			if was := impl.SealCell(make([]byte, 32), 9, none); sealed.Code != was.Code || !bytes.Equal(sealed.Bytes, was.Bytes) {
				t.Errorf("SealCell of %s is another one", what)
			}
		}
	}
	empty := []byte{}
	wantCellCode(t, "DecodeCell of no bytes", impl.DecodeCell(empty), impl.ErrMany)
	wantIntCode(t, "SlotOf no bytes", impl.SlotOf(empty), impl.ErrMany)
	wantCellCode(t, "OpenCell by no bytes", impl.OpenCell(empty, empty), impl.ErrRange)
	wantCellCode(t, "OpenCell of no bytes", impl.OpenCell(make([]byte, 32), empty), impl.ErrMany)
	wantBytesCode(t, "SealCell by no bytes", impl.SealCell(empty, 0, impl.Cell{Body: empty}), impl.ErrRange)
}

func dataOf(body []byte) impl.Cell {
	return impl.Cell{Kind: 1, Seq: 258, Ack: 772, Mask: 5, Last: true, Body: body}
}

func cellAnswer(r impl.CellResult) [][]byte {
	c := r.Cell
	return [][]byte{c.Body, []byte(fmt.Sprint(r.Code, r.Slot, c.Kind, c.Seq, c.Ack, c.Mask, c.Last))}
}

func bytesAnswer(r impl.BytesResult) [][]byte {
	return [][]byte{r.Bytes, {byte(r.Code)}}
}

// cellAsks are the functions of the chapter, each of a key, a Body, a plain text and a wire.
var cellAsks = map[string]asked{
	"CellFault": func(lists ...[]byte) [][]byte { return [][]byte{{byte(impl.CellFault(dataOf(lists[1])))}} },
	"CellFault of a dummy": func(lists ...[]byte) [][]byte {
		return [][]byte{{byte(impl.CellFault(impl.Cell{Body: lists[1]}))}}
	},
	"EncodeCell":            func(lists ...[]byte) [][]byte { return bytesAnswer(impl.EncodeCell(dataOf(lists[1]))) },
	"EncodeCell of a dummy": func(lists ...[]byte) [][]byte { return bytesAnswer(impl.EncodeCell(impl.Cell{Body: lists[1]})) },
	"DecodeCell":            func(lists ...[]byte) [][]byte { return cellAnswer(impl.DecodeCell(lists[2])) },
	"SealCell":              func(lists ...[]byte) [][]byte { return bytesAnswer(impl.SealCell(lists[0], 300, dataOf(lists[1]))) },
	"SealCell, no slot":     func(lists ...[]byte) [][]byte { return bytesAnswer(impl.SealCell(lists[0], 401, dataOf(lists[1]))) },
	"SlotOf": func(lists ...[]byte) [][]byte {
		got := impl.SlotOf(lists[3])
		return [][]byte{[]byte(fmt.Sprint(got.Code, got.Value))}
	},
	"OpenCell": func(lists ...[]byte) [][]byte { return cellAnswer(impl.OpenCell(lists[0], lists[3])) },
	"SameCells": func(lists ...[]byte) [][]byte {
		return [][]byte{[]byte(fmt.Sprint(impl.SameCells(dataOf(lists[1]), dataOf(lists[2])), impl.SameCells(dataOf(lists[1]), dataOf(lists[1]))))}
	},
}

// cellLists are such with an answer of each function, and such with each code.
func cellLists() [][][]byte {
	key := listOf(32, 7, 5)
	var out [][][]byte
	for _, size := range []int{0, 1, 2, 31, 32} {
		body := listOf(size, 50, 3)
		plain := plainBy(dataOf(body))
		wire := wireBy(key, int64(size), plain)
		out = append(out,
			[][]byte{key, body, plain, wire},
			[][]byte{key, body, putAt(plain, 43, 1), turnedAt(wire, 10, 1)},
			[][]byte{key, body, plain, wireBy(key, 9, putAt(plain, 43, 1))},
			[][]byte{key[:31], body, plain[:43], wire[:63]},
			[][]byte{key, body, plain, turnedAt(wire, 0, 1)},
		)
	}
	dummy := plainBy(impl.Cell{Ack: 3})
	return append(out,
		[][]byte{key, nil, dummy, wireBy(key, 400, dummy)},
		[][]byte{key, listOf(33, 1, 1), make([]byte, 45), make([]byte, 65)},
		[][]byte{listOf(33, 1, 1), listOf(1001, 1, 1), make([]byte, 1001), make([]byte, 1001)},
		[][]byte{nil, nil, nil, nil}, [][]byte{{}, {}, {}, {}},
	)
}

func cellListsName(name string, lists [][]byte) string {
	return fmt.Sprintf("%s of a key of %d bytes, a Body of %d, a text of %d, a wire of %d", name, len(lists[0]), len(lists[1]), len(lists[2]), len(lists[3]))
}

// Promise 1: no argument is changed, whether there is an answer or a code.
func TestCellArgumentsAreKept(t *testing.T) {
	for name, ask := range cellAsks {
		for _, lists := range cellLists() {
			checkArgumentsKept(t, cellListsName(name, lists), ask, lists...)
		}
	}
}

// Promise 1: an answer shares no memory with an argument, in either direction.
func TestCellAnswersAreNewMemory(t *testing.T) {
	for name, ask := range cellAsks {
		for _, lists := range cellLists() {
			checkNewMemory(t, cellListsName(name, lists), ask, lists...)
		}
	}
}

// Promise 1: so it is where a key is the Body, or a part of the wire, too.
func TestCellAnswersShareNothingWhereArgumentsDo(t *testing.T) {
	for name, ask := range cellAsks {
		one := func(lists ...[]byte) [][]byte {
			list := lists[0]
			return ask(list[:32], list[:32], list[:44], list)
		}
		for _, list := range [][]byte{listOf(64, 4, 9), make([]byte, 64), append(plainBy(impl.Cell{Kind: 1}), make([]byte, 20)...)} {
			checkNewMemory(t, name+" of one list", one, list)
			checkArgumentsKept(t, name+" of one list", one, list)
		}
	}
}

// Promise 1: an answer hangs on the arguments alone, not on what was asked ahead of it, or beside it.
func TestCellAnswersHangOnArgumentsAlone(t *testing.T) {
	all := cellLists()
	for name, ask := range cellAsks {
		for i, lists := range all {
			checkHangsOnArguments(t, cellListsName(name, lists), ask, lists, all[(i+1)%len(all)], all[len(all)-1-i])
		}
	}
}
