package tests

import (
	"bytes"
	"encoding/binary"
	"fmt"
	"hash/crc32"
	"math"
	"math/rand"
	"runtime"
	"slices"
	"testing"

	"loop.example/s02533/impl"
)

// twins are two states whose stream has all that can stand in one: of a directory, of a
// file that gets longer (4), one that gets shorter (5), one that is only another's (6), one
// that becomes free (7), a link that becomes a file (8), a new file behind free nodes (14),
// and nodes of a that b lacks (17, 18).
func twins() (impl.State, impl.State) {
	a := newPlanter()
	a.dir(1, "d")
	a.link(1, "stays", "d")
	a.file(1, "longer", fileOf(2))
	a.file(2, "shorter", fileOf(5))
	a.file(1, "owned", fileOf(3))
	gone := a.file(1, "gone", fileOf(2))
	turned := a.link(1, "turned", "to something else")
	b := &planter{copyOf(a.State)}
	a.Nodes = append(a.Nodes, make([]impl.Node, 17-len(a.Nodes))...)
	a.file(1, "end", "behind")
	a.file(1, "last", "behind")
	b.Clock = 12
	b.Nodes[4].Data = append(b.Nodes[4].Data, fileOf(3)[:1300]...)
	b.Nodes[4].Data[100]++
	b.Nodes[5].Data = b.Nodes[5].Data[:700]
	b.Nodes[5].Data[600] = 7
	b.own(6, 0o4777, 5, 6)
	b.Nodes[gone] = impl.Node{}
	b.Nodes[1].Data = crossOut(crossOut(bytes.Clone(b.Nodes[1].Data), "gone"), "turned")
	b.Nodes[turned] = impl.Node{Kind: 1, Links: 1, Mode: 0o600, Gen: 11, Mtime: 11, Ctime: 12, Data: []byte("now a file")}
	b.enter(1, "turned", turned, 1)
	b.Nodes = append(b.Nodes, make([]impl.Node, 14-len(b.Nodes))...)
	b.file(2, "new", fileOf(3)+"end!")
	return a.State, b.State
}

func TestTwins(t *testing.T) {
	a, b := twins()
	sound(t, "a", a)
	sound(t, "b", b)
	brings(t, "twins", a, b, []int{1, 512, 0}, []int{2, 512, 0}, []int{4, 2324, 0, 2, 3, 4}, []int{5, 700, 1}, []int{6, 1536}, []int{7, 0}, []int{8, 10, 0}, []int{14, 1540, 0, 1, 2, 3}, []int{17, 0}, []int{18, 0})
	carries(t, "twins, back", b, a)
}

// twinParcel is the parcel of the twins, to be changed.
func twinParcel() parcel {
	p, _ := plainParcel(twins())
	for k := range p.records {
		p.records[k].inode = bytes.Clone(p.records[k].inode)
	}
	return p
}

// at is the place of the record of a number.
func (p parcel) at(number int) int {
	return slices.IndexFunc(p.records, func(r carried) bool { return r.number == number })
}

func (p *parcel) record(number int) *carried { return &p.records[p.at(number)] }

// rawSum is a fingerprint of a state that needn't be right.
func rawSum(s impl.State) int {
	sum := crc32.NewIEEE()
	for _, n := range s.Nodes {
		sum.Write(plainNodeBytes(n))
		sum.Write(n.Data)
	}
	return int(sum.Sum32())
}

// mistake is something wrong with a parcel whose sum is right.
type mistake struct {
	name  string
	spoil func(p *parcel)
}

// wrongForms are those that the form has.
func wrongForms() []mistake {
	list := []mistake{}
	add := func(name string, spoil func(p *parcel)) { list = append(list, mistake{name, spoil}) }
	for _, text := range []string{"Stream01", "stream02", "stream1\x00", "STREAM01", "\x00\x00\x00\x00\x00\x00\x00\x00", "10maerts", "snapshot", "xtream01", "strexm01"} {
		add(fmt.Sprintf("letters %q", text), func(p *parcel) { p.letters = text })
	}
	for _, n := range []int{0, 1, 1002, 1003, 1 << 16, 1 << 31, math.MaxUint32} {
		add(fmt.Sprint(n, " nodes"), func(p *parcel) { p.nodes = n })
	}
	for _, n := range []int{0, 1, 9, 11, 10 + 1<<8, 1010, 10 + 1<<16, 100010, 1 << 16, 10 + 1<<31, math.MaxUint32} {
		add(fmt.Sprint(n, " records told"), func(p *parcel) { p.many = n })
	}
	add("a record too many told and none there", func(p *parcel) { p.records, p.many = nil, 1 })
	add("no record told, one there", func(p *parcel) { p.records, p.many = p.records[:1], 0 })
	add("a record is missing", func(p *parcel) { p.records = p.records[1:] })
	add("the last record is missing", func(p *parcel) { p.records = p.records[:9] })
	for _, many := range []int{1, 4, 128, 135, 136, 516, 652} {
		add(fmt.Sprint(many, " bytes behind"), func(p *parcel) { p.behind = make([]byte, many) })
	}
	for _, number := range []int{1, 4, 5, 6, 14} {
		name := fmt.Sprint("node ", number, ": ")
		for at, values := range map[int][]byte{0: {4, 255, 0}, 1: {1}, 3: {4, 255}, 5: {16, 255}, 10: {1}, 11: {128}, 14: {1}, 15: {255}, 22: {255}, 23: {1}, 31: {128}, 39: {255}, 43: {1}, 47: {128}, 90: {9}, 96: {1}, 104: {1}, 127: {255}} {
			for _, c := range values {
				add(fmt.Sprint(name, "byte ", at, " is ", c), func(p *parcel) { p.record(number).inode[at] = c })
			}
		}
		for _, size := range []int{262145, 1 << 20, 1 << 32, math.MaxInt, math.MinInt, -1} {
			add(fmt.Sprint(name, "Size ", size), func(p *parcel) { put64(p.record(number).inode, 40, size) })
		}
		for _, links := range []int{0, 1001, 65535} {
			add(fmt.Sprint(name, links, " Links"), func(p *parcel) { put16(p.record(number).inode, 2, links) })
		}
		for _, pointer := range []int{1, 2048, math.MaxUint32} {
			add(fmt.Sprint(name, "a pointer to ", pointer), func(p *parcel) { put32(p.record(number).inode, 48, pointer) })
		}
		add(name+"no time", func(p *parcel) { put64(p.record(number).inode, 24, 0) })
		add(name+"a time behind MaxClock", func(p *parcel) { put64(p.record(number).inode, 32, impl.MaxClock+1) })
		add(name+"a pointer behind its blocks", func(p *parcel) { put32(p.record(number).inode, 48+4*11, 5) })
		for _, many := range []int{1, 2, 1 << 8, 1000, 1 << 16, 100000, 1 << 31} {
			add(fmt.Sprint(name, many, " blocks more told"), func(p *parcel) { p.record(number).many += many })
		}
		if number != 6 {
			add(name+"a block less told", func(p *parcel) { p.record(number).many-- })
			add(name+"no blocks told", func(p *parcel) { p.record(number).many = 0 })
			for _, more := range []int{0, 1, 100, 1<<31 - 10, 1<<32 - 10} {
				add(fmt.Sprint(name, "an index ", more, " behind the last"), func(p *parcel) {
					r := p.record(number)
					i, _ := impl.DecodeInode(r.inode)
					r.blocks = slices.Clone(r.blocks)
					r.blocks[len(r.blocks)-1].index = pieces(i.Root.Size) + more
				})
			}
			add(name+"too small for its blocks", func(p *parcel) { put64(p.record(number).inode, 40, 0) })
		}
	}
	for _, number := range []int{7, 17, 18} {
		add(fmt.Sprint("a block of the free node ", number), func(p *parcel) {
			r := p.record(number)
			r.blocks, r.many = []sent{{0, filled(1)}}, 1
		})
		add(fmt.Sprint("nearly free: ", number), func(p *parcel) { p.record(number).inode[2] = 1 })
	}
	add("half a block", func(p *parcel) {
		r := p.record(14)
		r.blocks = slices.Clone(r.blocks)
		r.blocks[3].data = r.blocks[3].data[:256]
	})
	add("half an inode", func(p *parcel) { p.record(18).inode = make([]byte, 64) })
	return list
}

// wrongMakings are those that the form doesn't see: such a stream is for a, but isn't the
// difference of it and a right state.
func wrongMakings() []mistake {
	list := []mistake{}
	add := func(name string, spoil func(p *parcel)) { list = append(list, mistake{name, spoil}) }
	insert := func(p *parcel, k int, r carried) {
		p.records = slices.Insert(slices.Clone(p.records), k, r)
		p.many++
	}
	free := func(number int) carried { return carried{number: number, inode: make([]byte, 128)} }
	for k := range 9 {
		add(fmt.Sprint("records ", k, " and the next don't rise"), func(p *parcel) { p.records[k], p.records[k+1] = p.records[k+1], p.records[k] })
	}
	for k := range 10 {
		add(fmt.Sprint("record ", k, " twice"), func(p *parcel) { insert(p, k, p.records[k]) })
		add(fmt.Sprint("record ", k, " twice, at the end"), func(p *parcel) { insert(p, 10, p.records[k]) })
	}
	for at, number := range map[int]int{0: 0, 4: 5, 8: 15, 10: 19} {
		add(fmt.Sprint("a free node ", number, " more"), func(p *parcel) { insert(p, at, free(number)) })
	}
	for _, number := range []int{20, 1000, 1001, math.MaxInt32, math.MaxUint32} {
		add(fmt.Sprint("a free node ", number, " behind all"), func(p *parcel) { insert(p, 10, free(number)) })
		add(fmt.Sprint("a file ", number, " behind all"), func(p *parcel) {
			r := p.records[p.at(14)]
			r.number = number
			insert(p, 10, r)
		})
	}
	for _, number := range []int{17, 18} {
		add(fmt.Sprint("what b lacks isn't free: ", number), func(p *parcel) { p.record(number).inode = p.record(6).inode })
		add(fmt.Sprint("another number instead of ", number), func(p *parcel) { p.record(number).number = 16 })
	}
	add("a node that is as it was", func(p *parcel) {
		a, _ := twins()
		insert(p, p.at(4), carried{number: 3, inode: plainNodeBytes(a.Nodes[3])})
	})
	add("node 0", func(p *parcel) {
		r := p.records[p.at(6)]
		r.number = 0
		insert(p, 0, r)
	})
	for _, c := range []struct{ number, k int }{{4, 0}, {4, 2}, {14, 1}} {
		swap := func(p *parcel) {
			r := p.record(c.number)
			r.blocks = slices.Clone(r.blocks)
			r.blocks[c.k], r.blocks[c.k+1] = r.blocks[c.k+1], r.blocks[c.k]
		}
		add(fmt.Sprint("indexes of ", c.number, " don't rise at ", c.k), swap)
		add(fmt.Sprint("a block of ", c.number, " twice: ", c.k), func(p *parcel) {
			r := p.record(c.number)
			r.blocks = slices.Insert(slices.Clone(r.blocks), c.k, r.blocks[c.k])
			r.many++
		})
	}
	add("a block that a has", func(p *parcel) {
		a, _ := twins()
		r := p.record(4)
		r.blocks = slices.Insert(slices.Clone(r.blocks), 1, sent{1, piece(a.Nodes[4].Data, 1)})
		r.many++
	})
	add("a block that a has, of a node without others", func(p *parcel) {
		a, _ := twins()
		r := p.record(6)
		r.blocks, r.many = []sent{{2, piece(a.Nodes[6].Data, 2)}}, 1
	})
	add("a block of zeros that a has none of", func(p *parcel) {
		r := p.record(14)
		r.blocks = slices.Clone(r.blocks)
		r.blocks[1].data = make([]byte, 512)
	})
	for _, c := range []struct{ number, k, at int }{{4, 3, 276}, {4, 3, 511}, {5, 0, 188}, {8, 0, 10}, {14, 3, 4}} {
		add(fmt.Sprint("a byte behind the end of ", c.number, ": ", c.at), func(p *parcel) {
			r := p.record(c.number)
			r.blocks = slices.Clone(r.blocks)
			r.blocks[c.k].data = bytes.Clone(r.blocks[c.k].data)
			r.blocks[c.k].data[c.at] = 1
		})
	}
	for _, pointer := range []int{2, 2047} {
		add(fmt.Sprint("a pointer to ", pointer), func(p *parcel) { put32(p.record(4).inode, 48, pointer) })
	}
	for _, clock := range []uint64{0, 1, 8, 11, impl.MaxClock + 1, 1 << 63, math.MaxUint64} {
		add(fmt.Sprint("Clock ", clock), func(p *parcel) { p.clock = clock })
	}
	for _, nodes := range []int{2, 5, 14, 16, 17, 18, 19, 1001} {
		add(fmt.Sprint(nodes, " nodes"), func(p *parcel) { p.nodes = nodes })
	}
	add("another kind", func(p *parcel) { p.record(4).inode[0] = 3 })
	add("a file too many", func(p *parcel) { p.record(7).inode = p.record(6).inode })
	add("Links", func(p *parcel) { put16(p.record(4).inode, 2, 2) })
	add("Links of the root", func(p *parcel) { put16(p.record(1).inode, 2, 4) })
	add("Parent", func(p *parcel) { put32(p.record(2).inode, 12, 2) })
	add("Parent of the root", func(p *parcel) { put32(p.record(1).inode, 12, 2) })
	add("a directory that isn't one", func(p *parcel) { put64(p.record(2).inode, 40, 511) })
	add("the root is free", func(p *parcel) { *p.record(1) = carried{number: 1, inode: make([]byte, 128)} })
	add("a time behind the Clock", func(p *parcel) { put64(p.record(6).inode, 32, 13) })
	add("an entry of nothing", func(p *parcel) {
		r := p.record(2)
		r.blocks = []sent{{0, append(bytes.Clone(r.blocks[0].data[:480]), slotOf("more", 9, 1)...)}}
	})
	add("no blocks of the root", func(p *parcel) { p.record(1).blocks, p.record(1).many = nil, 0 })
	return list
}

// A mistake of the form is told ahead of a stream that is for another state, any other
// mistake behind it.
func TestMistakesOfStreams(t *testing.T) {
	a, b := twins()
	other, wrong := example().State, withClock(a, 0)
	if _, code := plainPatch(a, twinParcel().laid()); code != impl.OK {
		t.Fatalf("the test's own parcel: code %d", code)
	}
	patchedWith(t, "no mistake, for another", other, twinParcel().laid(), impl.ErrStale)
	patchedWith(t, "no mistake, for b", b, twinParcel().laid(), impl.ErrStale)
	patchedWith(t, "no mistake, for none", wrong, twinParcel().laid(), impl.ErrCorrupt)
	for _, from := range []int{0, 1, math.MaxUint32} {
		p := twinParcel()
		p.from = from
		patchedWith(t, "another first fingerprint", a, p.laid(), impl.ErrStale)
	}
	for _, m := range wrongForms() {
		p := twinParcel()
		m.spoil(&p)
		if _, formed := plainForm(p.laid()); formed {
			t.Errorf("%s: has the form", m.name)
		}
		for name, s := range map[string]impl.State{"for a": a, "for another": other, "for none": wrong} {
			patchedWith(t, m.name+", "+name, s, p.laid(), impl.ErrCorrupt)
		}
		p.from++
		patchedWith(t, m.name+", another first fingerprint", a, p.laid(), impl.ErrCorrupt)
	}
	for _, m := range wrongMakings() {
		p := twinParcel()
		m.spoil(&p)
		if _, formed := plainForm(p.laid()); !formed {
			t.Errorf("%s: hasn't the form", m.name)
		}
		// The second fingerprint is that of the true b, or just that of what is made.
		honest := p
		honest.to = rawSum(p.delivered(a))
		for _, p := range []parcel{p, honest} {
			patchedWith(t, m.name, a, p.laid(), impl.ErrCorrupt)
			patchedWith(t, m.name+", for another", other, p.laid(), impl.ErrStale)
			patchedWith(t, m.name+", for none", wrong, p.laid(), impl.ErrCorrupt)
			p.from--
			patchedWith(t, m.name+", another first fingerprint", a, p.laid(), impl.ErrStale)
		}
	}
	for _, to := range []int{0, 1, twinParcel().to + 1, twinParcel().from} {
		p := twinParcel()
		p.to = to
		patchedWith(t, "another second fingerprint", a, p.laid(), impl.ErrCorrupt)
		patchedWith(t, "another second fingerprint, for another", other, p.laid(), impl.ErrStale)
	}
	// A stream that isn't that of the twins, but right: it leads to another b.
	for _, m := range []mistake{
		{"another mode", func(p *parcel) { p.record(6).inode[4] = 1 }},
		{"a block less", func(p *parcel) { r := p.record(4); r.blocks, r.many = r.blocks[1:], r.many-1 }}, {"a record less", func(p *parcel) { p.records, p.many = slices.Delete(slices.Clone(p.records), 4, 5), 9 }},
		{"longer", func(p *parcel) { put64(p.record(14).inode, 40, 2048) }},
	} {
		p := twinParcel()
		m.spoil(&p)
		patchedWith(t, m.name, a, p.laid(), impl.ErrCorrupt)
		p.to = rawSum(p.delivered(a))
		patchedWith(t, m.name+", told", a, p.laid(), impl.OK)
	}
	for _, clock := range []uint64{13, impl.MaxClock} {
		p := twinParcel()
		p.clock = clock
		patchedWith(t, fmt.Sprint("Clock ", clock), a, p.laid(), impl.OK)
	}
}

// Streams of any length, cut and with bytes behind, and every bit changed: the sum is
// wrong, whatever state it is for.
func TestStreamsWithAWrongSum(t *testing.T) {
	// The worked example's, which is short.
	a := impl.NewState()
	whole, _ := plainDiff(a, applied(t, on(impl.OpCreate, "/f", 0o644), writing("/f", 1024, "x")))
	states := []impl.State{a, example().State}
	refused := func(name string, stream []byte) {
		t.Helper()
		for _, s := range states {
			if made, code := impl.Patch(s, stream); code != impl.ErrCorrupt || !sameState(made, impl.State{}) {
				t.Errorf("%s: code %d", name, code)
			}
		}
	}
	for cut := range whole {
		refused(fmt.Sprint("cut at ", cut), whole[:cut])
		refused(fmt.Sprint("begun at ", cut+1), whole[cut+1:])
	}
	for _, behind := range [][]byte{{0}, {1}, make([]byte, 4), whole[len(whole)-4:], whole, make([]byte, 516)} {
		refused("bytes behind", slices.Concat(whole, behind))
	}
	for at := range whole {
		for bit := range 8 {
			changed := bytes.Clone(whole)
			changed[at] ^= 1 << bit
			refused(fmt.Sprint("bit ", bit, " of byte ", at), changed)
		}
	}
	for _, stream := range [][]byte{nil, {}, []byte("stream01"), make([]byte, 4), make([]byte, 36), make([]byte, 1<<20), bytes.Repeat([]byte{255}, 5000)} {
		refused("any bytes", stream)
	}
	// Cut at every place, with a right sum of what is left: at none but the end the records
	// are those that are told.
	for cut := 8; cut < len(whole)-4; cut++ {
		short := binary.LittleEndian.AppendUint32(bytes.Clone(whole[:cut]), crc32.ChecksumIEEE(whole[:cut]))
		refused(fmt.Sprint("cut at ", cut, ", with a sum"), short)
	}
}

// Every bit changed below a right sum, held against the rule. Only bits of the Clock may
// be others: 38 of them make it a greater one that is still a Clock.
func TestEveryBitBelowARightSum(t *testing.T) {
	t.Parallel()
	a, _ := twins()
	whole := twinParcel().laid()
	codes := map[int]int{}
	for at := range len(whole) - 4 {
		for bit := range 8 {
			// The blocks of the files are many, and all alike.
			if at > 1500 && (at+bit)%17 != 0 {
				continue
			}
			changed := bytes.Clone(whole[:len(whole)-4])
			changed[at] ^= 1 << bit
			changed = binary.LittleEndian.AppendUint32(changed, crc32.ChecksumIEEE(changed))
			want, wantCode := plainPatch(a, changed)
			if made, code := impl.Patch(a, changed); code != wantCode || !sameState(made, want) {
				t.Errorf("bit %d of byte %d: code %d, want %d", bit, at, code, wantCode)
			}
			codes[wantCode]++
		}
	}
	if codes[impl.ErrStale] != 32 || codes[impl.ErrCorrupt] < 5000 || codes[impl.OK] != 38 {
		t.Errorf("codes %v", codes)
	}
}

// What a stream would make is never made if it is more than a state may have.
func TestStreamsThatWouldMakeTooMuch(t *testing.T) {
	a := impl.NewState()
	from, _ := plainFingerprint(a)
	file := plainInode(impl.Inode{Kind: 1, Links: 1, Mode: 1, Gen: 1, Mtime: 1, Ctime: 1, Root: impl.Root{Size: 262144}})
	for _, next := range []func(k int) int{func(k int) int { return k + 2 }, func(k int) int { return 2 }, func(k int) int { return 1000 - k%900 }, func(k int) int { return k * 1000 }} {
		p := parcel{letters: "stream01", from: int(from), clock: 9, nodes: 1001, many: 7000}
		for k := range p.many {
			p.records = append(p.records, carried{number: next(k), inode: file})
		}
		stream := p.laid()
		var before, after runtime.MemStats
		runtime.ReadMemStats(&before)
		made, code := impl.Patch(a, stream)
		runtime.ReadMemStats(&after)
		if code != impl.ErrCorrupt || !sameState(made, impl.State{}) {
			t.Errorf("code %d", code)
		}
		if took := after.TotalAlloc - before.TotalAlloc; took > 64<<20 {
			t.Errorf("%d bytes of memory for a stream of %d", took, len(stream))
		}
		p.from++
		if _, code := impl.Patch(a, p.laid()); code != impl.ErrStale {
			t.Errorf("for another: code %d", code)
		}
	}
	// Very many records or blocks told, and none there.
	for _, p := range []parcel{
		{letters: "stream01", from: int(from), clock: 9, nodes: 3, many: math.MaxUint32},
		{letters: "stream01", from: int(from), clock: 9, nodes: 3, many: 1, records: []carried{{number: 2, inode: file, many: math.MaxUint32}}},
	} {
		if _, code := impl.Patch(a, p.laid()); code != impl.ErrCorrupt {
			t.Errorf("told: code %d", code)
		}
	}
	// Just as much as may be is made, and a byte more isn't.
	for more, code := range map[int]int{0: impl.OK, 1: impl.ErrCorrupt, 512: impl.ErrCorrupt} {
		b := fullState(more).State
		p, _ := plainParcel(a, fullState(0).State)
		put64(p.records[4].inode, 40, 262144-512+more)
		p.to = rawSum(b)
		if more > 0 {
			r := &p.records[4]
			r.blocks = append(r.blocks, sent{511, piece(b.Nodes[5].Data, 511)})
			r.many++
		}
		patchedWith(t, fmt.Sprint(more, " bytes more"), a, p.laid(), code)
	}
}

// anyMistake changes a parcel somewhere.
func anyMistake(random *rand.Rand, p *parcel) {
	if len(p.records) == 0 || random.Intn(6) == 0 {
		switch random.Intn(5) {
		case 0:
			p.clock = []uint64{0, 1, 9, 10, 50, impl.MaxClock}[random.Intn(6)]
		case 1:
			p.nodes += random.Intn(5) - 2
		case 2:
			p.many += random.Intn(3) - 1
		case 3:
			p.to++
		case 4:
			p.behind = make([]byte, random.Intn(300))
		}
		return
	}
	k := random.Intn(len(p.records))
	r := &p.records[k]
	switch random.Intn(8) {
	case 0:
		p.records, p.many = slices.Delete(p.records, k, k+1), p.many-1
	case 1:
		p.records, p.many = slices.Insert(p.records, random.Intn(len(p.records)), *r), p.many+1
	case 2:
		r.number += random.Intn(5) - 2
	case 3:
		r.inode = bytes.Clone(r.inode)
		r.inode[random.Intn(64)] ^= 1 << random.Intn(8)
	case 4:
		r.inode = bytes.Clone(r.inode)
		put64(r.inode, 40, random.Intn(3000))
	case 5:
		index := random.Intn(5)
		r.blocks, r.many = append(slices.Clone(r.blocks), sent{index, filled(byte(random.Intn(3)))}), r.many+1
	case 6:
		if len(r.blocks) > 0 {
			r.blocks, r.many = r.blocks[1:], r.many-1
		}
	case 7:
		if len(r.blocks) > 0 {
			r.blocks = slices.Clone(r.blocks)
			last := &r.blocks[len(r.blocks)-1]
			last.index += random.Intn(3) - 1
			last.data = bytes.Clone(last.data)
			last.data[random.Intn(512)] ^= byte(random.Intn(2))
		}
	}
}

// Mistakes at random, one or several, told in the second fingerprint or not.
func TestMistakesAtRandom(t *testing.T) {
	t.Parallel()
	random := rand.New(rand.NewSource(242))
	codes := map[int]int{}
	for round := range 6000 {
		a := remade(random, anyState(random, random.Intn(12)).State)
		b := remade(random, later(random, a, random.Intn(6)))
		p, code := plainParcel(a, b)
		if code != impl.OK {
			t.Fatalf("round %d: the test's own states: code %d", round, code)
		}
		for range random.Intn(3) {
			anyMistake(random, &p)
		}
		if p.nodes >= 0 && p.nodes < 1100 && random.Intn(3) > 0 {
			if q, formed := plainForm(p.laid()); formed {
				p.to = rawSum(q.delivered(a))
			}
		}
		if random.Intn(8) == 0 {
			p.from ^= 4
		}
		_, code = patchesPlainly(t, fmt.Sprint("round ", round), a, p.laid())
		codes[code]++
		if t.Failed() {
			return
		}
	}
	for _, code := range []int{impl.OK, impl.ErrStale, impl.ErrCorrupt} {
		if codes[code] < 400 {
			t.Errorf("codes %v", codes)
		}
	}
}
