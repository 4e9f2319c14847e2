package tests

import (
	"bytes"
	"encoding/binary"
	"fmt"
	"hash/crc32"
	"math"
	"math/rand"
	"runtime"
	"slices"
	"strings"
	"testing"
	"time"

	"loop.example/s02533/impl"
)

// Chapter 15's first worked example, by its numbers.
func TestWorkedExampleOfStreams(t *testing.T) {
	a := impl.NewState()
	b := applied(t, on(impl.OpCreate, "/f", 0o644), writing("/f", 1024, "x"))
	stream := carries(t, "there", a, b)
	if len(stream) != 36+2*(136+516) {
		t.Errorf("there: %d bytes", len(stream))
	}
	brings(t, "there", a, b, []int{1, 512, 0}, []int{2, 1025, 2})
	back := carries(t, "back", b, a)
	if len(back) != 36+2*136 {
		t.Errorf("back: %d bytes", len(back))
	}
	brings(t, "back", b, a, []int{1, 0}, []int{2, 0})
	// Byte by byte: the head, the root with its only block, the file with its third one.
	want := make([]byte, 36+2*652)
	copy(want, "stream01")
	one, _ := plainFingerprint(a)
	other, _ := plainFingerprint(b)
	put32(want, 8, int(one))
	put32(want, 12, int(other))
	put64(want, 16, 3)
	put32(want, 24, 3)
	put32(want, 28, 2)
	put32(want, 32, 1)
	copy(want[36:], plainInode(impl.Inode{Kind: 2, Links: 2, Mode: 0o755, Parent: 1, Gen: 1, Mtime: 2, Ctime: 2, Root: impl.Root{Size: 512}}))
	put32(want, 164, 1)
	copy(want[172:], slotOf("f", 2, 1))
	put32(want, 684, 2)
	copy(want[688:], plainInode(impl.Inode{Kind: 1, Links: 1, Mode: 0o644, Gen: 2, Mtime: 3, Ctime: 3, Root: impl.Root{Size: 1025}}))
	put32(want, 816, 1)
	put32(want, 820, 2)
	want[824] = 'x'
	binary.LittleEndian.PutUint32(want[1336:], crc32.ChecksumIEEE(want[:1336]))
	if !bytes.Equal(stream, want) {
		t.Errorf("there: % x", stream)
	}
	// And back: node 2 is free, all of its inode zeros.
	if !bytes.Equal(back[32+136+4:32+136+136], make([]byte, 132)) || back[24] != 2 || back[16] != 1 {
		t.Errorf("back: % x", back)
	}
}

// A fingerprint is the sum of the inodes and bytes of all nodes, the free ones too, and of
// nothing else: not of the Clock.
func TestFingerprints(t *testing.T) {
	whole := make([]byte, 256)
	copy(whole[128:], plainInode(impl.Inode{Kind: 2, Links: 2, Mode: 493, Parent: 1, Gen: 1, Mtime: 1, Ctime: 1}))
	if sum, code := fingerprints(t, "new", impl.NewState()); sum != crc32.ChecksumIEEE(whole) || code != impl.OK {
		t.Errorf("new: %x, code %d", sum, code)
	}
	s := example().State
	begun, _ := fingerprints(t, "example", s)
	for _, clock := range []int{10, 11, impl.MaxClock} {
		if sum, code := fingerprints(t, "another Clock", withClock(s, clock)); sum != begun || code != impl.OK {
			t.Errorf("Clock %d: %x, want %x", clock, sum, begun)
		}
	}
	seen := map[uint32]string{begun: "example"}
	for name, change := range map[string]func(p *planter){
		"Mode": func(p *planter) { p.Nodes[3].Mode++ }, "Uid": func(p *planter) { p.Nodes[4].Uid++ }, "Gid": func(p *planter) { p.Nodes[1].Gid++ }, "Gen": func(p *planter) { p.Nodes[2].Gen++ }, "Mtime": func(p *planter) { p.Nodes[5].Mtime-- }, "Ctime": func(p *planter) { p.Nodes[6].Ctime++ },
		"a byte": func(p *planter) { p.Nodes[3].Data[4]++ }, "longer by a zero": func(p *planter) { p.Nodes[3].Data = append(p.Nodes[3].Data, 0) }, "shorter": func(p *planter) { p.Nodes[3].Data = p.Nodes[3].Data[:4] }, "no bytes": func(p *planter) { p.Nodes[3].Data = nil },
		"another name": func(p *planter) { p.again(1, "x", 3) }, "a file more": func(p *planter) { p.file(1, "x", "") }, "a directory more": func(p *planter) { p.dir(1, "x") }, "a link more": func(p *planter) { p.link(1, "x", "x") },
		"a file behind free nodes": func(p *planter) { p.Nodes = append(p.Nodes, impl.Node{}); p.file(1, "x", "") },
	} {
		p := example()
		change(p)
		sum, code := fingerprints(t, name, p.State)
		if other, found := seen[sum]; found || code != impl.OK {
			t.Errorf("%s: code %d, the sum of %s", name, code, other)
		}
		seen[sum] = name
	}
	for _, s := range []impl.State{fullState(0).State, starOf(998).State, manyFiles(999).State, bookcase().State} {
		fingerprints(t, "great", s)
	}
}

// states are right ones of many shapes, by name; great ones too if they are asked for.
func states(t *testing.T, great bool) map[string]impl.State {
	t.Helper()
	sparse := example()
	sparse.file(1, "sparse", strings.Repeat("\x00", 20000)+"x"+strings.Repeat("\x00", 600))
	sparse.file(1, "zeros", strings.Repeat("\x00", 5000))
	far := example()
	far.Nodes = append(far.Nodes, make([]impl.Node, 60)...)
	far.file(2, "far", "far away")
	other := newPlanter()
	other.file(1, "d", "no directory any more")
	other.dir(1, "f")
	other.link(3, "l", letters(255))
	other.own(2, 0, 65535, 65535)
	list := map[string]impl.State{
		"new": impl.NewState(), "a file": oneFile([]byte("hello")), "a file of zeros": oneFile(make([]byte, 1700)), "an empty file": oneFile(nil), "example": example().State, "grove": grove().State, "sparse": sparse.State, "far": far.State, "other kinds": other.State,
		"worked": worked(t), "new, later": withClock(impl.NewState(), 77), "the last Clock": withClock(example().State, impl.MaxClock), "forty files": manyFiles(40).State,
	}
	if great {
		list["bookcase"] = bookcase().State
		list["full"] = fullState(0).State
		list["a star"] = starOf(998).State
		list["a chain"] = chainOf(999, "d").State
		list["all inodes"] = manyFiles(999).State
	}
	return list
}

// Promise 24, from each state to each other one and back; of any other state than that
// which it is for, a stream is stale.
func TestStreamsBetweenAnyTwoStates(t *testing.T) {
	list := states(t, false)
	for from, a := range list {
		for to, b := range list {
			name := from + " to " + to
			stream := carries(t, name, a, b)
			if from == to && len(stream) != 36 {
				t.Errorf("%s: %d bytes", name, len(stream))
			}
			for other, c := range list {
				one, _ := plainFingerprint(a)
				two, _ := plainFingerprint(c)
				if want := impl.ErrStale; one != two {
					patchedWith(t, name+" for "+other, c, stream, want)
				} else if made, code := patchesPlainly(t, name+" for "+other, c, stream); code != impl.OK || !sameState(made, b) {
					t.Errorf("%s for %s: code %d", name, other, code)
				}
			}
		}
	}
}

// The same with states as great as they may be.
func TestStreamsOfGreatStates(t *testing.T) {
	all := states(t, true)
	for _, pair := range [][2]string{{"new", "full"}, {"full", "new"}, {"full", "all inodes"}, {"all inodes", "full"}, {"a star", "a chain"}, {"a chain", "a star"}, {"all inodes", "a star"}, {"bookcase", "full"}, {"example", "bookcase"}, {"bookcase", "example"}, {"new", "all inodes"}, {"all inodes", "new"}, {"full", "full"}, {"a chain", "new"}} {
		name := pair[0] + " to " + pair[1]
		a, b := all[pair[0]], all[pair[1]]
		stream := carries(t, name, a, b)
		if pair[0] != pair[1] {
			patchedWith(t, name+", again", b, stream, impl.ErrStale)
		}
	}
	// Every block of the greatest state is sent: the root, 512 blocks of three files, 512 of
	// the fourth, whose last one isn't there.
	if stream := carries(t, "new to full", all["new"], all["full"]); len(stream) != 36+5*136+2048*516 {
		t.Errorf("new to full: %d bytes", len(stream))
	}
	if stream := carries(t, "new to all inodes", all["new"], all["all inodes"]); len(stream) != 36+1000*136+(999+63)*516 {
		t.Errorf("new to all inodes: %d bytes", len(stream))
	}
}

// Which blocks of a file's bytes are sent.
func TestBlocksThatAreSent(t *testing.T) {
	fill := func(many int) []byte { return []byte(fileOf(many)) }
	zeros := func(size int) []byte { return make([]byte, size) }
	put := func(data []byte, at int, c byte) []byte {
		data = bytes.Clone(data)
		data[at] = c
		return data
	}
	join := func(parts ...[]byte) []byte { return slices.Concat(parts...) }
	for _, c := range []struct {
		name string
		a, b []byte
		want []int
	}{
		{"longer by blocks", fill(2), fill(4), []int{2, 3}},
		{"longer inside of a block", []byte("hello"), []byte("hello, world"), []int{0}},
		{"longer by a byte of the next block", fill(1), join(fill(1), []byte("x")), []int{1}},
		{"longer by a zero", []byte("hello"), []byte("hello\x00"), nil},
		{"longer by zeros to the end of the block", []byte("hello"), join([]byte("hello"), zeros(507)), nil},
		{"longer by a block of zeros", fill(2), join(fill(2), zeros(512)), nil},
		{"longer by a zero of the next block", fill(2), join(fill(2), zeros(1)), nil},
		{"longer by zeros and a byte", fill(1), join(fill(1), zeros(1024), []byte("x")), []int{3}},
		{"shorter by blocks", fill(4), fill(2), nil},
		{"shorter inside of a block", []byte("hello, world"), []byte("hello"), []int{0}},
		{"shorter by a zero", []byte("hello\x00"), []byte("hello"), nil},
		{"shorter by zeros", join(fill(1), zeros(700)), fill(1), nil},
		{"shorter to a block that isn't whole", put(fill(3), 1100, 1), fill(3)[:1100], []int{2}},
		{"shorter to a block of zeros that isn't whole", join(fill(2), zeros(512), fill(1)), join(fill(2), zeros(5)), nil},
		{"to nothing", fill(3), nil, nil},
		{"from nothing", nil, fill(3), []int{0, 1, 2}},
		{"from nothing to zeros", nil, zeros(1500), nil},
		{"from nothing to one zero", nil, zeros(1), nil},
		{"from zeros to nothing", zeros(1500), nil, nil},
		{"one block changed, the first", fill(5), put(fill(5), 0, 'x'), []int{0}},
		{"one block changed, in the middle", fill(5), put(fill(5), 1535, 'x'), []int{2}},
		{"one block changed, the last", fill(5), put(fill(5), 2048, 'x'), []int{4}},
		{"a last block that isn't whole changed", join(fill(2), []byte("last")), join(fill(2), []byte("lost")), []int{2}},
		{"ahead of a last block that isn't whole", join(fill(2), []byte("last")), put(join(fill(2), []byte("last")), 600, 'x'), []int{1}},
		{"a block becomes zeros", fill(3), join(fill(1), zeros(512), fill(3)[1024:]), []int{1}},
		{"all blocks become zeros", fill(3), zeros(1536), []int{0, 1, 2}},
		{"zeros become a block", join(fill(1), zeros(512), fill(3)[1024:]), fill(3), []int{1}},
		{"all zeros become blocks", zeros(1536), fill(3), []int{0, 1, 2}},
		{"zeros in both, one byte changed", put(zeros(2000), 700, 1), put(zeros(2000), 700, 2), []int{1}},
		{"a byte moves from block to block", put(zeros(2000), 700, 1), put(zeros(2000), 1999, 1), []int{1, 3}},
		{"zeros that get longer and shorter", zeros(513), zeros(512), nil},
		{"below Single", fill(140), put(fill(140), 13*512, 'x'), []int{13}},
		{"below Double", join(fill(141), zeros(3000)), put(join(fill(141), zeros(3000)), 143*512, 'x'), []int{143}},
		{"the longest file", zeros(262144), put(zeros(262144), 262143, 1), []int{511}},
	} {
		want := append([]int{2, len(c.b)}, c.want...)
		brings(t, c.name, oneFile(c.a), oneFile(c.b), want)
		// The other way round what is sent is of the other's bytes.
		carries(t, c.name+", back", oneFile(c.b), oneFile(c.a))
	}
	brings(t, "nothing changes", oneFile(fill(3)), oneFile(fill(3)))
}

// Nodes that come, go and become another.
func TestNodesThatAreSent(t *testing.T) {
	sub := func(p *planter, number int) *planter {
		p.Nodes[number] = impl.Node{}
		return p
	}
	ten := func() *planter {
		p := newPlanter()
		for k := range 9 {
			p.file(1, fmt.Sprint("f", k), fmt.Sprint("file ", k))
		}
		return p
	}
	drop := func(p *planter, name string, number int) *planter {
		p.Nodes[1].Data = crossOut(bytes.Clone(p.Nodes[1].Data), name)
		return sub(p, number)
	}
	// A node that is free in b, in the middle: all bytes that it had go unsaid.
	brings(t, "used, then free", ten().State, drop(ten(), "f3", 5).State, []int{1, 512, 0}, []int{5, 0})
	brings(t, "free, then used", drop(ten(), "f3", 5).State, ten().State, []int{1, 512, 0}, []int{5, 6, 0})
	// The last nodes go: b has fewer nodes than a, and the records of what it lacks stand all
	// the same.
	short := drop(drop(ten(), "f8", 10), "f7", 9)
	short.Nodes = short.Nodes[:9]
	p := brings(t, "fewer nodes", ten().State, short.State, []int{1, 512, 0}, []int{9, 0}, []int{10, 0})
	if p.nodes != 9 || p.many != 3 {
		t.Errorf("fewer nodes: %d nodes, %d records", p.nodes, p.many)
	}
	p = brings(t, "more nodes", short.State, ten().State, []int{1, 512, 0}, []int{9, 6, 0}, []int{10, 6, 0})
	if p.nodes != 11 {
		t.Errorf("more nodes: %d nodes", p.nodes)
	}
	// Free nodes between need no record.
	far := newPlanter()
	far.Nodes = append(far.Nodes, make([]impl.Node, 500)...)
	far.file(1, "far", "")
	brings(t, "far", newPlanter().State, far.State, []int{1, 512, 0}, []int{502, 0})
	brings(t, "far, back", far.State, newPlanter().State, []int{1, 0}, []int{502, 0})
	// Free in a, where a has a node of that number no more, and free in both.
	other := ten()
	drop(drop(other, "f3", 5), "f8", 10)
	other.Nodes = append(other.Nodes[:10], impl.Node{})
	other.file(1, "new", "new")
	brings(t, "free in both", drop(ten(), "f3", 5).State, other.State, []int{1, 512, 0}, []int{10, 0}, []int{11, 3, 0})
	// Another kind at the same number: what the old one had at the same place stays unsent.
	kinds := map[string]func(data string) *planter{
		"file": func(data string) *planter { p := newPlanter(); p.file(1, "x", data); return p },
		"link": func(data string) *planter { p := newPlanter(); p.link(1, "x", data); return p },
	}
	dir := newPlanter()
	dir.file(dir.dir(1, "x"), "in", "")
	for from, a := range kinds {
		for to, b := range kinds {
			if from == to {
				continue
			}
			brings(t, from+" to "+to, a("same").State, b("same").State, []int{1, 512, 0}, []int{2, 4})
			brings(t, from+" to another "+to, a("same").State, b("else").State, []int{1, 512, 0}, []int{2, 4, 0})
		}
		brings(t, from+" to a directory", a("same").State, dir.State, []int{1, 512, 0}, []int{2, 512, 0}, []int{3, 0})
		brings(t, "a directory to a "+from, dir.State, a("same").State, []int{1, 512, 0}, []int{2, 4, 0}, []int{3, 0})
	}
	image := dir.Nodes[2].Data
	brings(t, "a directory to a file of its bytes", dir.State, kinds["file"](string(image)).State, []int{1, 512, 0}, []int{2, 512}, []int{3, 0})
	// Each field alone makes a record without blocks.
	for name, change := range map[string]func(n *impl.Node){
		"Mode": func(n *impl.Node) { n.Mode = 0 }, "Uid": func(n *impl.Node) { n.Uid = 65535 }, "Gid": func(n *impl.Node) { n.Gid = 1 }, "Gen": func(n *impl.Node) { n.Gen = 9 }, "Mtime": func(n *impl.Node) { n.Mtime = 2 }, "Ctime": func(n *impl.Node) { n.Ctime = 9 },
	} {
		for _, number := range []int{1, 2, 6, 10} {
			b := ten()
			change(&b.Nodes[number])
			want := []int{number, len(b.Nodes[number].Data)}
			brings(t, fmt.Sprint(name, " of ", number), ten().State, b.State, want)
		}
	}
	link := ten()
	link.again(1, "again", 4)
	brings(t, "another name", ten().State, link.State, []int{1, 512, 0}, []int{4, 6})
}

// A Clock is told, but makes no difference: the stream has no record, and it is for any
// state with these nodes, whatever Clock that has.
func TestClocksOfStreams(t *testing.T) {
	for name, s := range map[string]impl.State{"new": impl.NewState(), "example": example().State, "bookcase": bookcase().State} {
		for _, clocks := range [][2]int{{s.Clock, s.Clock}, {s.Clock, s.Clock + 1}, {s.Clock + 1, s.Clock}, {s.Clock, impl.MaxClock}, {impl.MaxClock, s.Clock}, {impl.MaxClock, impl.MaxClock}} {
			a, b := withClock(s, clocks[0]), withClock(s, clocks[1])
			here := fmt.Sprint(name, ", Clocks ", clocks)
			p := brings(t, here, a, b)
			if p.clock != uint64(clocks[1]) || p.from != p.to || p.nodes != len(s.Nodes) {
				t.Errorf("%s: %v", here, p)
			}
			for _, clock := range []int{s.Clock, s.Clock + 3, impl.MaxClock} {
				if made, code := patchesPlainly(t, here, withClock(s, clock), p.laid()); code != impl.OK || !sameState(made, b) {
					t.Errorf("%s, of a Clock of %d: code %d, Clock %d", here, clock, code, made.Clock)
				}
			}
		}
	}
	// Something else changes too, and the Clock goes back as far as the times let it.
	a := withClock(example().State, 500)
	b := example()
	b.Nodes[3].Mode = 1
	brings(t, "back", a, b.State, []int{3, 5})
}

// States that aren't right, as a, as b and as both.
func TestStreamsOfWrongStates(t *testing.T) {
	right := example().State
	none, _ := plainDiff(right, right)
	for _, list := range [][]spoiling{wrongNumbers(), notFree(), wrongData(), wrongEntries(), circles()} {
		for _, c := range list {
			p := example()
			c.spoil(p)
			for _, pair := range [][2]impl.State{{p.State, right}, {right, p.State}, {p.State, p.State}} {
				if stream, code := differs(t, c.name, pair[0], pair[1]); len(stream) != 0 || code != impl.ErrCorrupt {
					t.Errorf("%s: %d bytes, code %d", c.name, len(stream), code)
				}
			}
			if sum, code := fingerprints(t, c.name, p.State); sum != 0 || code != impl.ErrCorrupt {
				t.Errorf("%s: %x, code %d", c.name, sum, code)
			}
			patchedWith(t, c.name, p.State, none, impl.ErrCorrupt)
			patchedWith(t, c.name+", no stream", p.State, nil, impl.ErrCorrupt)
		}
	}
	for name, s := range map[string]impl.State{"nothing": {}, "one node": {Clock: 1, Nodes: make([]impl.Node, 1)}, "very many nodes": {Clock: 1, Nodes: make([]impl.Node, 300000)}, "too many bytes": fullState(1).State, "too many Links": starOf(999).State} {
		for _, pair := range [][2]impl.State{{s, right}, {right, s}, {s, s}} {
			if stream, code := impl.Diff(pair[0], pair[1]); len(stream) != 0 || code != impl.ErrCorrupt {
				t.Errorf("%s: %d bytes, code %d", name, len(stream), code)
			}
		}
		if sum, code := impl.Fingerprint(s); sum != 0 || code != impl.ErrCorrupt {
			t.Errorf("%s: %x, code %d", name, sum, code)
		}
		if made, code := impl.Patch(s, none); !sameState(made, impl.State{}) || code != impl.ErrCorrupt {
			t.Errorf("%s: code %d", name, code)
		}
	}
}

// later is a state some operations behind another; each is done.
func later(random *rand.Rand, s impl.State, many int) impl.State {
	for range many {
		op := anyOp(random, s)
		if random.Intn(3) == 0 {
			op.Uid, op.Gid = 0, 0
		}
		s, _ = plainApply(s, op)
	}
	return s
}

// remade is a state with some files' bytes written over: blocks of zeros and of others.
func remade(random *rand.Rand, s impl.State) impl.State {
	s = copyOf(s)
	for k := range s.Nodes {
		if s.Nodes[k].Kind == impl.KindFile && random.Intn(2) == 0 {
			s.Nodes[k].Data = patches(random, random.Intn(6000), 2)
		}
	}
	return s
}

// Promise 24 at random: states that live, and states that have nothing to do with each
// other; a chain of streams leads where all of them lead.
func TestStreamsAtRandom(t *testing.T) {
	t.Parallel()
	random := rand.New(rand.NewSource(241))
	stale, long := 0, 0
	for round := range 400 {
		a := remade(random, anyState(random, random.Intn(30)).State)
		a.Nodes[1].Mode = 0o777
		at, first := a, a
		for step := range 4 {
			name := fmt.Sprint("round ", round, ", step ", step)
			b := later(random, at, random.Intn(12))
			switch random.Intn(5) {
			case 0:
				b = remade(random, anyState(random, random.Intn(40)).State)
			case 1:
				b = remade(random, b)
			}
			stream := carries(t, name, at, b)
			long = max(long, len(stream))
			for _, other := range []impl.State{first, b, later(random, at, 2)} {
				if _, code := patchesPlainly(t, name+", another", other, stream); code == impl.ErrStale {
					stale++
				}
			}
			at = b
		}
		carries(t, fmt.Sprint("round ", round, ", all at once"), first, at)
		if t.Failed() {
			return
		}
	}
	if stale < 1500 || long < 20000 {
		t.Errorf("%d were stale, the longest had %d bytes", stale, long)
	}
}

// Nobody is at work any more when a stream is made or carried out, or refused.
func TestNoWorkerStaysBehindAStream(t *testing.T) {
	a, b := impl.NewState(), bookcase().State
	before := runtime.NumGoroutine()
	for range 100 {
		stream, _ := impl.Diff(a, b)
		impl.Patch(a, stream)
		impl.Patch(b, stream)
		stream[50]++
		impl.Patch(a, stream)
		impl.Diff(a, impl.State{})
	}
	for wait := 0; runtime.NumGoroutine() > before && wait < 100; wait++ {
		time.Sleep(10 * time.Millisecond)
	}
	if after := runtime.NumGoroutine(); after > before {
		t.Errorf("%d workers are left of %d", after, before)
	}
}

// The same stream each time, however many are made at once.
func TestStreamsMadeAtOnce(t *testing.T) {
	a, b := example().State, bookcase().State
	want, _ := plainDiff(a, b)
	done := make(chan bool)
	for range 8 {
		go func() {
			same := true
			for range 20 {
				stream, code := impl.Diff(a, b)
				made, patched := impl.Patch(a, stream)
				same = same && code == impl.OK && patched == impl.OK && bytes.Equal(stream, want) && sameState(made, b)
			}
			done <- same
		}()
	}
	for range 8 {
		if !<-done {
			t.Error("another stream")
		}
	}
}

// Any integers where the numbers of a state stand.
func TestStreamsOfAnyNumbers(t *testing.T) {
	right := example().State
	for _, n := range []int{math.MinInt, -1, 0, math.MaxInt, impl.MaxClock + 1} {
		for _, s := range []impl.State{withClock(right, n), {Clock: n}, {Clock: 1, Nodes: []impl.Node{{Kind: n}, {Links: n, Mode: n, Uid: n, Gid: n, Parent: n, Gen: n, Mtime: n, Ctime: n, Kind: n}}}} {
			differs(t, "any numbers", s, right)
			differs(t, "any numbers", right, s)
			fingerprints(t, "any numbers", s)
		}
	}
}
