package tests

import (
	"bytes"
	"encoding/binary"
	"fmt"
	"hash/crc32"
	"slices"
	"testing"

	"loop.example/s02533/impl"
)

// plainNodeBytes are the bytes of a node's inode as chapter 15 has them.
func plainNodeBytes(n impl.Node) []byte {
	return plainInode(inodeWith(n, impl.Root{Size: len(n.Data)}))
}

func plainFingerprint(s impl.State) (uint32, int) {
	if !plainState(s) {
		return 0, impl.ErrCorrupt
	}
	sum := crc32.NewIEEE()
	for _, n := range s.Nodes {
		sum.Write(plainNodeBytes(n))
		sum.Write(n.Data)
	}
	return sum.Sum32(), impl.OK
}

// nodeIn is a node of a state: what a state lacks is a free node.
func nodeIn(s impl.State, number int) impl.Node {
	if number >= len(s.Nodes) {
		return impl.Node{}
	}
	return s.Nodes[number]
}

// piece is a block of a node's Data, filled up with zeros.
func piece(data []byte, index int) []byte {
	b := make([]byte, 512)
	if 512*index < len(data) {
		copy(b, data[512*index:])
	}
	return b
}

// pieces is how many blocks so many bytes have.
func pieces(size int) int { return (size + 511) / 512 }

// sent is a block of a stream, and carried a record, just as they stand there.
type sent struct {
	index int
	data  []byte
}

type carried struct {
	number int
	inode  []byte
	// many is how many blocks are told.
	many   int
	blocks []sent
}

// parcel is a stream taken apart: all but its sum.
type parcel struct {
	letters  string
	from, to int
	clock    uint64
	// nodes and many are the numbers of nodes and of records that are told.
	nodes, many int
	records     []carried
	behind      []byte
}

// laid is a parcel as a stream, with a right sum.
func (p parcel) laid() []byte {
	b := make([]byte, 32)
	copy(b, p.letters)
	put32(b, 8, p.from)
	put32(b, 12, p.to)
	binary.LittleEndian.PutUint64(b[16:], p.clock)
	put32(b, 24, p.nodes)
	put32(b, 28, p.many)
	for _, r := range p.records {
		b = binary.LittleEndian.AppendUint32(b, uint32(r.number))
		b = append(b, r.inode...)
		b = binary.LittleEndian.AppendUint32(b, uint32(r.many))
		for _, s := range r.blocks {
			b = binary.LittleEndian.AppendUint32(b, uint32(s.index))
			b = append(b, s.data...)
		}
	}
	b = append(b, p.behind...)
	return binary.LittleEndian.AppendUint32(b, crc32.ChecksumIEEE(b))
}

// plainParcel is what stands in Diff of two states.
func plainParcel(a, b impl.State) (parcel, int) {
	from, one := plainFingerprint(a)
	to, other := plainFingerprint(b)
	if one != impl.OK || other != impl.OK {
		return parcel{}, impl.ErrCorrupt
	}
	p := parcel{letters: "stream01", from: int(from), to: int(to), clock: uint64(b.Clock), nodes: len(b.Nodes)}
	for number := 1; number < max(len(a.Nodes), len(b.Nodes)); number++ {
		m, n := nodeIn(a, number), nodeIn(b, number)
		if bytes.Equal(plainNodeBytes(m), plainNodeBytes(n)) && bytes.Equal(m.Data, n.Data) {
			continue
		}
		r := carried{number: number, inode: plainNodeBytes(n)}
		for index := range pieces(len(n.Data)) {
			if now := piece(n.Data, index); !bytes.Equal(now, piece(m.Data, index)) {
				r.blocks = append(r.blocks, sent{index, now})
			}
		}
		r.many = len(r.blocks)
		p.records = append(p.records, r)
	}
	p.many = len(p.records)
	return p, impl.OK
}

func plainDiff(a, b impl.State) ([]byte, int) {
	p, code := plainParcel(a, b)
	if code != impl.OK {
		return nil, code
	}
	return p.laid(), impl.OK
}

// plainForm takes a stream apart; it says whether it has the form, and a right sum.
func plainForm(stream []byte) (parcel, bool) {
	if len(stream) < 36 || binary.LittleEndian.Uint32(stream[len(stream)-4:]) != crc32.ChecksumIEEE(stream[:len(stream)-4]) {
		return parcel{}, false
	}
	word := func(at int) int { return int(binary.LittleEndian.Uint32(stream[at:])) }
	p := parcel{letters: string(stream[:8]), from: word(8), to: word(12), clock: binary.LittleEndian.Uint64(stream[16:]), nodes: word(24), many: word(28)}
	if p.letters != "stream01" || p.nodes < 2 || p.nodes > 1001 {
		return parcel{}, false
	}
	at, end := 32, len(stream)-4
	for range p.many {
		if end-at < 136 {
			return parcel{}, false
		}
		r := carried{number: word(at), inode: stream[at+4 : at+132], many: word(at + 132)}
		inode, code := impl.DecodeInode(r.inode)
		if code != impl.OK {
			return parcel{}, false
		}
		at += 136
		for range r.many {
			if end-at < 516 || word(at) >= pieces(inode.Root.Size) {
				return parcel{}, false
			}
			r.blocks = append(r.blocks, sent{word(at), stream[at+4 : at+516]})
			at += 516
		}
		p.records = append(p.records, r)
	}
	return p, at == end
}

// delivered is what a parcel makes of a state.
func (p parcel) delivered(a impl.State) impl.State {
	b := impl.State{Clock: int(p.clock)}
	for number := range p.nodes {
		b.Nodes = append(b.Nodes, nodeIn(a, number))
	}
	for _, r := range p.records {
		if r.number >= p.nodes {
			continue
		}
		i, _ := impl.DecodeInode(r.inode)
		data := []byte{}
		for index := range pieces(i.Root.Size) {
			now := piece(nodeIn(a, r.number).Data, index)
			for _, s := range r.blocks {
				if s.index == index {
					now = s.data
				}
			}
			data = append(data, now...)
		}
		b.Nodes[r.number] = impl.Node{Kind: i.Kind, Links: i.Links, Mode: i.Mode, Uid: i.Uid, Gid: i.Gid, Parent: i.Parent, Gen: i.Gen, Mtime: i.Mtime, Ctime: i.Ctime, Data: data[:i.Root.Size]}
	}
	return b
}

func plainPatch(a impl.State, stream []byte) (impl.State, int) {
	p, formed := plainForm(stream)
	if !plainState(a) || !formed {
		return impl.State{}, impl.ErrCorrupt
	}
	if from, _ := plainFingerprint(a); int(from) != p.from {
		return impl.State{}, impl.ErrStale
	}
	b := p.delivered(a)
	if again, code := plainDiff(a, b); code != impl.OK || !bytes.Equal(again, stream) {
		return impl.State{}, impl.ErrCorrupt
	}
	return copyOf(b), impl.OK
}

// fingerprints asks for the sum of the plain rule; it tells it and the code.
func fingerprints(t *testing.T, name string, s impl.State) (uint32, int) {
	t.Helper()
	handed := handedOver(s)
	got, code := impl.Fingerprint(handed)
	want, wantCode := plainFingerprint(s)
	if got != want || code != wantCode {
		t.Errorf("%s: fingerprint %x, code %d, want %x, code %d", name, got, code, want, wantCode)
	}
	if !intact(handed, s) {
		t.Errorf("%s: the fingerprint has changed an argument", name)
	}
	return want, wantCode
}

// differs asks for the stream of the plain rule; it tells it and the code.
func differs(t *testing.T, name string, a, b impl.State) ([]byte, int) {
	t.Helper()
	one, other := handedOver(a), handedOver(b)
	got, code := impl.Diff(one, other)
	want, wantCode := plainDiff(a, b)
	if !bytes.Equal(got, want) || code != wantCode {
		t.Errorf("%s: a stream of %d bytes, code %d, want %d bytes, code %d", name, len(got), code, len(want), wantCode)
	}
	clear(got[:cap(got)])
	if !intact(one, a) || !intact(other, b) {
		t.Errorf("%s: an argument of Diff has been changed, or the answer shares its memory", name)
	}
	return want, wantCode
}

// patchesPlainly asks for the state of the plain rule; it tells it and the code.
func patchesPlainly(t *testing.T, name string, a impl.State, stream []byte) (impl.State, int) {
	t.Helper()
	handed, given := handedOver(a), withSpare(stream)
	got, code := impl.Patch(handed, given)
	want, wantCode := plainPatch(a, stream)
	if code != wantCode || !sameState(got, want) {
		t.Errorf("%s: patched, code %d, Clock %d, %d nodes, want code %d, Clock %d, %d nodes", name, code, got.Clock, len(got.Nodes), wantCode, want.Clock, len(want.Nodes))
	}
	if scribble(got, impl.Ans{}) {
		t.Errorf("%s: two lists of what is patched share memory", name)
	}
	if !intact(handed, a) || !bytes.Equal(given, stream) || !spareIntact(given) {
		t.Errorf("%s: an argument of Patch has been changed, or the answer shares its memory", name)
	}
	return want, wantCode
}

// patchedWith asks for a code too.
func patchedWith(t *testing.T, name string, a impl.State, stream []byte, code int) {
	t.Helper()
	if _, got := patchesPlainly(t, name, a, stream); got != code {
		t.Errorf("%s: the rule of the test says %d, want %d", name, got, code)
	}
}

// carries asks for promise 24 of two states; it tells the stream.
func carries(t *testing.T, name string, a, b impl.State) []byte {
	t.Helper()
	stream, code := differs(t, name, a, b)
	made, patched := patchesPlainly(t, name, a, stream)
	if code != impl.OK || patched != impl.OK || !sameState(made, b) {
		t.Errorf("%s: codes %d and %d, Clock %d, want %d", name, code, patched, made.Clock, b.Clock)
	}
	return stream
}

// brings asks for the records of the stream between two states: of each the number, the
// Size and the indexes of its blocks.
func brings(t *testing.T, name string, a, b impl.State, want ...[]int) parcel {
	t.Helper()
	stream := carries(t, name, a, b)
	p, formed := plainForm(stream)
	if !formed {
		t.Fatalf("%s: the stream hasn't the form", name)
	}
	got, length := [][]int{}, 36
	for _, r := range p.records {
		i, _ := impl.DecodeInode(r.inode)
		told := []int{r.number, i.Root.Size}
		for _, s := range r.blocks {
			told = append(told, s.index)
		}
		got, length = append(got, told), length+136+516*len(r.blocks)
	}
	if !slices.EqualFunc(got, want, slices.Equal) || len(stream) != length {
		t.Errorf("%s: records %v in %d bytes, want %v", name, tellRecords(got), len(stream), tellRecords(want))
	}
	return p
}

func tellRecords(list [][]int) string {
	if len(list) > 9 {
		return fmt.Sprint(len(list), " records, the first ", list[:9])
	}
	return fmt.Sprint(list)
}
