package tests

import (
	"bytes"
	"fmt"
	"math"
	"math/rand"
	"strings"
	"testing"

	"loop.example/s02533/impl"
)

// bookcase is the example with a file of 20 blocks, node 7, one of 150, node 8, and
// one of a byte, node 9.
func bookcase() *planter {
	p := example()
	p.file(1, "single", fileOf(20))
	p.file(1, "double", fileOf(150))
	p.file(1, "byte", "b")
	return p
}

func TestWhatAChangeCosts(t *testing.T) {
	whole := volumeOf(300, bookcase().State)
	set := func(number, at int, c byte) func(p *planter) {
		return func(p *planter) { p.Nodes[number].Data[at] = c }
	}
	cut := func(number, size int) func(p *planter) {
		return func(p *planter) { p.Nodes[number].Data = p.Nodes[number].Data[:size] }
	}
	grow := func(number int, more string) func(p *planter) {
		return func(p *planter) { p.Nodes[number].Data = append(bytes.Clone(p.Nodes[number].Data), more...) }
	}
	for _, c := range []struct {
		name   string
		change func(p *planter)
		want   int
	}{
		{"nothing", func(p *planter) {}, 0},
		{"the Clock alone", func(p *planter) { p.Clock = 77 }, 0},
		{"a Mode", func(p *planter) { p.Nodes[3].Mode = 7 }, 1},
		{"two Modes in one block of the table", func(p *planter) { p.Nodes[2].Mode, p.Nodes[3].Mode = 7, 7 }, 1},
		{"Modes in two blocks of the table", func(p *planter) { p.Nodes[3].Mode, p.Nodes[4].Mode = 7, 7 }, 2},
		{"Modes in three blocks of the table", func(p *planter) { p.Nodes[3].Mode, p.Nodes[4].Mode, p.Nodes[9].Mode = 7, 7, 7 }, 3},
		{"a time", func(p *planter) { p.Nodes[9].Ctime = 2 }, 1},
		{"the only byte of a file", set(9, 0, 'c'), 2},
		{"a byte at Direct 0", set(7, 0, 'c'), 2},
		{"a byte at Direct 11", set(7, 11*512, 'c'), 2},
		{"a byte below Single", set(7, 12*512, 'c'), 3},
		{"the last byte below Single", set(7, 20*512-1, 'c'), 3},
		{"a byte below Double", set(8, 140*512, 'c'), 4},
		{"bytes at Direct, Single and Double", func(p *planter) { set(8, 0, 'c')(p); set(8, 13*512, 'c')(p); set(8, 141*512, 'c')(p) }, 7},
		{"bytes of two files", func(p *planter) { set(7, 0, 'c')(p); set(9, 0, 'c')(p) }, 4},
		{"the same byte again", func(p *planter) { set(7, 0, 'b')(p) }, 0},
		{"a block that becomes zeros", func(p *planter) { clear(p.Nodes[7].Data[:512]) }, 1},
		{"a block below Single that becomes zeros", func(p *planter) { clear(p.Nodes[7].Data[12*512 : 13*512]) }, 2},
		{"all below Single becomes zeros", func(p *planter) { clear(p.Nodes[7].Data[12*512:]) }, 1},
		{"a file that becomes zeros", func(p *planter) { clear(p.Nodes[8].Data) }, 1},
		{"longer within its block", grow(9, "c"), 2},
		{"longer by zeros within its block", grow(9, "\x00\x00"), 1},
		{"longer by a block of zeros", grow(9, strings.Repeat("\x00", 600)), 1},
		{"longer by a block", grow(7, "x"), 3},
		{"longer by zeros and a byte", grow(7, strings.Repeat("\x00", 5120)+"x"), 3},
		{"longer into Double", grow(7, strings.Repeat("\x00", 512*130)+"x"), 4},
		{"longer below Double", grow(8, "x"), 4},
		{"shorter by a byte that is zero", cut(7, 20*512-1), 1},
		{"shorter within a block", cut(7, 19*512+2), 3},
		{"shorter by a block", cut(7, 19*512), 2},
		{"shorter than Single", cut(7, 12*512), 1},
		{"shorter within a block at Direct", cut(7, 3*512+2), 2},
		{"shorter than Double", cut(8, 140*512), 1},
		{"empty", cut(8, 0), 1},
		{"a byte to nothing", cut(9, 0), 1},
		{"a target", func(p *planter) { p.Nodes[4].Data = []byte("d/g") }, 2},
		{"blocks that trade places", func(p *planter) {
			data := p.Nodes[7].Data
			p.Nodes[7].Data = append(append(bytes.Clone(data[512:1024]), data[:512]...), data[1024:]...)
		}, 3},
		{"files that trade their bytes", func(p *planter) { p.Nodes[7].Data, p.Nodes[8].Data = p.Nodes[8].Data, p.Nodes[7].Data }, 133 + 1 + 2},
		{"an empty file", func(p *planter) { p.file(1, "new", "") }, 3},
		{"a file of a byte", func(p *planter) { p.file(1, "new", "n") }, 4},
		{"a file like another", func(p *planter) { p.file(1, "new", "b") }, 4},
		{"a file of 13 blocks", func(p *planter) { p.file(1, "new", fileOf(13)) }, 17},
		{"nodes behind a block of the table", func(p *planter) { p.file(1, "new", ""); p.file(1, "next", ""); p.file(1, "more", "") }, 4},
		{"a free block of the table", func(p *planter) { p.Nodes = append(p.Nodes, make([]impl.Node, 10)...); p.file(1, "new", "") }, 3},
		{"an entry that goes", func(p *planter) {
			p.Nodes[1].Data, p.Nodes[9] = crossOut(p.Nodes[1].Data, "byte"), impl.Node{}
			p.Nodes = p.Nodes[:9]
		}, 3},
		{"a free node in the middle", func(p *planter) { p.Nodes[1].Data, p.Nodes[7] = crossOut(p.Nodes[1].Data, "single"), impl.Node{} }, 3},
		{"a new state", func(p *planter) { *p = planter{impl.NewState()} }, 1},
	} {
		p := bookcase()
		c.change(p)
		if !plainState(p.State) {
			t.Fatalf("%s: the test's own state isn't right", c.name)
		}
		freshOf(t, c.name, whole, p.State, c.want)
	}
}

// Numbers that are free in ref's table, or that it lacks, have no reference.
func TestNodesWithoutAReference(t *testing.T) {
	gap := newPlanter()
	gap.Nodes = append(gap.Nodes, make([]impl.Node, 3)...)
	gap.file(1, "five", "five")
	image := volumeOf(64, gap.State)
	filled := newPlanter()
	for k := 2; k < 5; k++ {
		filled.file(1, numberedName(k), "x")
	}
	filled.file(1, "five", "five")
	// The root's block, three files and both blocks of the table.
	freshOf(t, "free ones that are used", image, filled.State, 6)
	back := volumeOf(64, filled.State)
	freshOf(t, "used ones that are free", back, gap.State, 3)
	freshOf(t, "fewer nodes", back, impl.NewState(), 1)
	freshOf(t, "many nodes", image, manyFiles(30).State, 2+30+8)
	freshOf(t, "many nodes against many", volumeOf(300, manyFiles(100).State), manyFiles(30).State, 2)
}

func TestReferencesOfCounting(t *testing.T) {
	image := volumeOf(300, bookcase().State)
	f, _, _ := plainChoose(image)
	wrongState := impl.State{Clock: 1}
	for name, s := range map[string]impl.State{"right": bookcase().State, "new": impl.NewState(), "wrong": wrongState, "zero": {}} {
		// Not right: that is told first.
		for _, ref := range []impl.Root{
			{Size: -1}, {Size: impl.MaxFile + 1}, {Size: math.MinInt}, {Size: math.MaxInt}, {Direct: [12]int{5}}, {Size: 512, Direct: [12]int{1}}, {Size: 512, Direct: [12]int{-1}},
			{Size: 512, Direct: [12]int{2048}}, {Size: 512, Direct: [12]int{2, 3}}, {Size: 6144, Single: 3}, {Size: 140 * 512, Double: 3}, {Size: 512, Direct: [12]int{math.MaxInt}},
		} {
			if n, code := counts(t, name, image, ref, s); n != 0 || code != impl.ErrInval {
				t.Errorf("%s state, %v: %d, code %d", name, ref, n, code)
			}
		}
		// Not to be read, or no table.
		for _, ref := range []impl.Root{
			{}, {Size: 1}, {Size: 128}, {Size: 255}, {Size: 257}, {Size: 384}, {Size: impl.MaxFile}, {Size: 128 * 1002}, {Size: 512, Direct: [12]int{300}}, {Size: 512, Direct: [12]int{2047}},
			{Size: 256, Direct: [12]int{299}, Single: 0}, {Size: 512, Direct: [12]int{f.Map.Direct[0]}}, {Size: f.Ino.Size - 128, Direct: f.Ino.Direct}, {Size: f.Ino.Size + 128, Direct: f.Ino.Direct},
			{Size: f.Ino.Size - 1, Direct: f.Ino.Direct},
		} {
			want := impl.ErrCorrupt
			if _, code := plainInodes(image, ref); code == impl.OK && plainState(s) {
				want = impl.OK
			}
			if _, code := counts(t, name, image, ref, s); code != want {
				t.Errorf("%s state, %v: code %d, want %d", name, ref, code, want)
			}
		}
	}
	for _, ref := range []impl.Root{{}, {Size: 384}, {Size: 512, Direct: [12]int{300}}} {
		if n, code := impl.FreshCount(image, ref, bookcase().State); n != 0 || code != impl.ErrCorrupt {
			t.Errorf("%v: %d, code %d", ref, n, code)
		}
	}
	// 256 zeros are a table of two free inodes: all is fresh against it.
	if n, code := counts(t, "two free inodes", image, impl.Root{Size: 256}, impl.NewState()); n != 1 || code != impl.OK {
		t.Errorf("two free inodes: %d, code %d", n, code)
	}
	counts(t, "two free inodes", image, impl.Root{Size: 256}, bookcase().State)
	for _, size := range []int{0, 1, 64*512 - 1, 64*512 + 1, 63 * 512, 2049 * 512} {
		for _, s := range []impl.State{impl.NewState(), wrongState} {
			for _, ref := range []impl.Root{f.Ino, {}, {Size: -1}, {Size: 512, Direct: [12]int{2047}}} {
				if n, code := counts(t, "size", make([]byte, size), ref, s); n != 0 || code != impl.ErrInval {
					t.Errorf("an image of %d bytes: %d, code %d", size, n, code)
				}
			}
		}
	}
	// No record is needed to count against a table.
	bare := bytes.Clone(image)
	clear(bare[:1024])
	if n, code := counts(t, "without a record", bare, f.Ino, bookcase().State); n != 0 || code != impl.OK {
		t.Errorf("without a record: %d, code %d", n, code)
	}
}

// Against another table than the record's: that of a snapshot.
func TestCountingAgainstASnapshot(t *testing.T) {
	m := newMason(600)
	old := m.state(example().State)
	now := m.state(bookcase().State)
	m.info.Ino = now
	m.snap(1, "old", 9, old)
	image := m.done()
	for _, c := range []struct {
		name string
		ref  impl.Root
		s    impl.State
		want int
	}{
		{"the old state against the old table", old, example().State, 0},
		{"the new state against the new table", now, bookcase().State, 0},
		// The root's bytes change, three files are new: 21, 153 and 1 blocks; all three blocks of the table.
		{"the new state against the old table", old, bookcase().State, 1 + 21 + 153 + 1 + 3},
		{"the old state against the new table", now, example().State, 1 + 2},
	} {
		if n, code := counts(t, c.name, image, c.ref, c.s); n != c.want || code != impl.OK {
			t.Errorf("%s: %d, code %d, want %d", c.name, n, code, c.want)
		}
	}
}

// What lies behind the end of a table or of a pointer block is compared too; but a
// fresh block's number is equal to nothing there.
func TestWhatLiesBehindTheEnds(t *testing.T) {
	// Seven inodes: the second block of the table has room for one more.
	for _, c := range []struct {
		name   string
		data   string
		behind impl.Root
		want   int
	}{
		{"an empty file, and just that behind the end", "", impl.Root{}, 2},
		{"a file, and behind the end the greatest word", "n", impl.Root{Size: 1, Direct: [12]int{math.MaxUint32}}, 4},
		{"a file, and behind the end one less", "n", impl.Root{Size: 1, Direct: [12]int{math.MaxUint32 - 1}}, 4},
		{"a file, and behind the end a half", "n", impl.Root{Size: 1, Direct: [12]int{1 << 31}}, 4},
		{"a file, and behind the end 1", "n", impl.Root{Size: 1, Direct: [12]int{1}}, 4},
		{"a file, and behind the end 2048", "n", impl.Root{Size: 1, Direct: [12]int{2048}}, 4},
		{"a file, and behind the end a hole", "n", impl.Root{Size: 1}, 4},
	} {
		p := example()
		p.file(1, "new", c.data)
		image := volumeOf(64, example().State)
		f, _, _ := plainChoose(image)
		copy(image[512*f.Ino.Direct[1]+384:], plainInode(inodeWith(p.Nodes[7], c.behind)))
		freshOf(t, c.name, image, p.State, c.want)
	}
	// A pointer block with words behind the last block of its file.
	p := example()
	p.file(1, "thirteen", fileOf(13))
	image := volumeOf(100, p.State)
	f, _, _ := plainChoose(image)
	list, _ := plainInodes(image, f.Ino)
	longer := copyOf(p.State)
	longer.Nodes[7].Data = append(longer.Nodes[7].Data, 'x')
	for _, word := range []int{0, 1, 2, 50, 2048, 1 << 31, math.MaxUint32 - 1, math.MaxUint32} {
		image := bytes.Clone(image)
		putWord(image, list[7].Root.Single, 1, word)
		freshOf(t, fmt.Sprint(word, " behind the end, as long"), image, p.State, map[bool]int{true: 0, false: 2}[word == 0])
		freshOf(t, fmt.Sprint(word, " behind the end, longer"), image, longer, 3)
	}
	// All great words are there somewhere: none of them may be taken for free.
	for k := range 99 * 128 {
		if b := 2 + k/128; b >= 80 && b < 100 {
			putWord(image, b, k%128, math.MaxUint32-(k-78*128))
		}
	}
	for word := range 50 {
		putWord(image, list[7].Root.Single, 1, math.MaxUint32-word)
		freshOf(t, "great words everywhere", image, longer, 3)
	}
}

func TestRoomThatIsNegative(t *testing.T) {
	image := plainFormat(64, 0, 0)
	for _, c := range []struct{ blocks, want int }{
		{1, 59 - 3}, {12, 59 - 14}, {13, 59 - 16}, {55, 59 - 58}, {56, 0}, {57, -1}, {58, -2}, {140, 59 - 143}, {141, 59 - 146}, {512, 59 - 519},
	} {
		p := newPlanter()
		p.file(1, "big", fileOf(c.blocks))
		counts(t, "big", image, impl.Root{}, p.State)
		if n, code := impl.Room(image, p.State); n != c.want || code != impl.OK {
			t.Errorf("%d blocks: Room %d, code %d, want %d", c.blocks, n, code, c.want)
		}
	}
	full := mappedVolume(func() []int { return rightWords(64, 1<<31) }())
	if n, code := impl.Room(full, impl.NewState()); n != -1 || code != impl.OK {
		t.Errorf("no block is free: %d, code %d", n, code)
	}
	great := mappedVolume(rightWords(2048, 6))
	if n, code := impl.Room(great, impl.NewState()); n != -17 || code != impl.OK {
		t.Errorf("no block is free of 2048: %d, code %d", n, code)
	}
	most := fullState(0)
	if n, code := impl.Room(full, most.State); code != impl.OK || n > -2000 {
		t.Errorf("MaxBytes: %d, code %d", n, code)
	}
	counts(t, "MaxBytes", full, impl.Root{}, most.State)
	counts(t, "MaxBytes", great, impl.Root{}, most.State)
}

// rightWords is a map in which every block has the same word, but the record's.
func rightWords(n, word int) []int {
	words := emptyWords(n)
	for b := 2; b < n; b++ {
		words[b] = word
	}
	return words
}

// The faults of Room: those of the map and of the state, of the table too.
func TestRoomIsRefused(t *testing.T) {
	whole := volumeOf(300, bookcase().State)
	for name, c := range map[string]struct {
		image []byte
		s     impl.State
		code  int
	}{
		"all right":                {whole, bookcase().State, impl.OK},
		"a wrong state":            {whole, impl.State{}, impl.ErrCorrupt},
		"a state wrong by a link":  {whole, func() impl.State { p := bookcase(); p.Nodes[7].Links++; return p.State }(), impl.ErrCorrupt},
		"no record":                {blank(300), bookcase().State, impl.ErrCorrupt},
		"too short":                {whole[:len(whole)-1], bookcase().State, impl.ErrInval},
		"too short, a wrong state": {whole[:len(whole)-1], impl.State{}, impl.ErrInval},
		"no map":                   {withRecord(whole, func(f *impl.Fsinfo) { f.Map.Direct[0] = 0 }), bookcase().State, impl.ErrCorrupt},
		"no table":                 {withRecord(whole, func(f *impl.Fsinfo) { f.Ino.Direct[0] = 0; f.Ino.Direct[1] = 2 }), bookcase().State, impl.ErrCorrupt},
		"a table of another state": {withRecord(whole, func(f *impl.Fsinfo) { f.Ino = impl.Root{Size: 256} }), bookcase().State, impl.OK},
		"snapshots are lost":       {withRecord(whole, func(f *impl.Fsinfo) { f.Snaps[4] = 290 }), bookcase().State, impl.OK},
		"the state is lost":        {withRecord(whole, func(f *impl.Fsinfo) { f.Clock = 1 }), bookcase().State, impl.OK},
	} {
		f, _, _ := plainChoose(c.image)
		counts(t, name, c.image, f.Ino, c.s)
		if n, code := impl.Room(c.image, c.s); code != c.code || code != impl.OK && n != 0 {
			t.Errorf("%s: %d, code %d, want %d", name, n, code, c.code)
		}
	}
}

func TestFormatOfEveryNumberOfBlocks(t *testing.T) {
	t.Parallel()
	for n := 64; n <= 2048; n++ {
		image, code := impl.Format(n, n%1001, 0)
		if code != impl.OK || !bytes.Equal(image, plainFormat(n, n%1001, 0)) {
			t.Fatalf("%d blocks: %d bytes, code %d, or other bytes", n, len(image), code)
		}
		s, code := impl.LoadState(image)
		if code != impl.OK || !sameState(s, impl.NewState()) {
			t.Errorf("%d blocks: not a new state, code %d", n, code)
		}
		words, code := impl.MapWords(image)
		c, _ := impl.MapCount(words)
		if code != impl.OK || c.Blocks != n || c.Used != 2+1+impl.MapReserve(n) || c.Planes[0] != c.Used || words[2] != 1 {
			t.Errorf("%d blocks: %d in use, code %d", n, c.Used, code)
		}
		if n%16 != 0 {
			continue
		}
		if room, code := impl.Room(image, s); room != n-3-2*impl.MapReserve(n) || code != impl.OK {
			t.Errorf("%d blocks: Room %d, code %d", n, room, code)
		}
		if list, code := impl.Snapshots(image); len(list) != 0 || code != impl.OK {
			t.Errorf("%d blocks: %d snapshots, code %d", n, len(list), code)
		}
	}
}

// The blocks that are in use are just those that the record reaches.
func TestWhatANewVolumeHasInUse(t *testing.T) {
	for _, n := range []int{64, 65, 127, 128, 129, 256, 1535, 1536, 1537, 1664, 1665, 2047, 2048} {
		image, _ := impl.Format(n, 0, 0)
		f, _, _ := impl.ChooseFsinfo(image)
		reached := emptyWords(n)
		for _, r := range []impl.Root{f.Ino, f.Map} {
			list, code := impl.TreeBlocks(image, r)
			if code != impl.OK {
				t.Fatalf("%d blocks: code %d", n, code)
			}
			for _, b := range list {
				reached[b]++
			}
		}
		words, _ := impl.MapWords(image)
		for b, w := range words {
			if w != reached[b] {
				t.Errorf("%d blocks: block %d has the word %d, reached %d times", n, b, w, reached[b])
			}
			if w == 0 && !bytes.Equal(image[512*b:512*b+512], make([]byte, 512)) {
				t.Errorf("%d blocks: block %d is free, but not zeros", n, b)
			}
		}
	}
}

func TestFormatOfEveryAndLog(t *testing.T) {
	for _, n := range []int{64, 1537, 2048} {
		for _, every := range []int{0, 1, 2, 500, 999, 1000} {
			for _, log := range []int{0, 8192, 8193, 30000, 65535, 65536} {
				image, code := impl.Format(n, every, log)
				if code != impl.OK || !bytes.Equal(image, plainFormat(n, every, log)) {
					t.Errorf("%d, %d, %d: code %d, or other bytes", n, every, log, code)
				}
				if f, slot, code := impl.ChooseFsinfo(image); f.Every != every || f.Log != log || f.Gen != 1 || f.Clock != 1 || f.Ops != 0 || slot != 0 || code != impl.OK {
					t.Errorf("%d, %d, %d: %v, block %d, code %d", n, every, log, f, slot, code)
				}
				if !bytes.Equal(image[:512], image[512:1024]) {
					t.Errorf("%d, %d, %d: the copies differ", n, every, log)
				}
				if got := readsTheVolume(t, "a new volume", image); got != [4]int{} {
					t.Errorf("%d, %d, %d: codes %v", n, every, log, got)
				}
			}
		}
	}
	one, _ := impl.Format(64, 0, 0)
	two, _ := impl.Format(64, 0, 0)
	clear(one)
	if !bytes.Equal(two, plainFormat(64, 0, 0)) {
		t.Errorf("two volumes share their memory")
	}
}

func TestFormatIsRefused(t *testing.T) {
	badBlocks := []int{math.MinInt, -64, -1, 0, 1, 2, 63, 2049, 4096, 1 << 32, 1<<32 + 64, math.MaxInt}
	badEvery := []int{math.MinInt, -1, 1001, 1 << 32, 1<<32 + 5, math.MaxInt}
	badLog := []int{math.MinInt, -8192, -1, 1, 4096, 8191, 65537, 1 << 32, 1<<32 + 8192, math.MaxInt}
	for _, blocks := range append(badBlocks, 64, 2048) {
		for _, every := range append(badEvery, 0, 1000) {
			for _, log := range append(badLog, 0, 8192, 65536) {
				want := impl.ErrRange
				if blocks >= 64 && blocks <= 2048 && every >= 0 && every <= 1000 && (log == 0 || log >= 8192 && log <= 65536) {
					want = impl.OK
				}
				image, code := impl.Format(blocks, every, log)
				if code != want || code != impl.OK && len(image) != 0 {
					t.Errorf("%d, %d, %d: %d bytes, code %d, want %d", blocks, every, log, len(image), code, want)
				}
			}
		}
	}
}

// States that live, written against what they were some operations ago.
func TestCountingAtRandom(t *testing.T) {
	t.Parallel()
	random := rand.New(rand.NewSource(103))
	most := 0
	for round := range 40 {
		s := anyState(random, random.Intn(60)).State
		if random.Intn(4) == 0 {
			s = impl.NewState()
		}
		image := volumeOf(1000, s)
		f, _, _ := plainChoose(image)
		for step := range 4 {
			for range random.Intn(80) {
				op := anyOp(random, s)
				op.Uid, op.Gid = 0, 0
				s, _ = plainApply(s, op)
			}
			name := fmt.Sprint("round ", round, ", step ", step)
			n, code := counts(t, name, image, f.Ino, s)
			if code != impl.OK {
				t.Errorf("%s: code %d", name, code)
			}
			most = max(most, n)
		}
		if t.Failed() {
			return
		}
	}
	if most < 20 {
		t.Errorf("at most %d fresh blocks", most)
	}
}

// hurt changes something of a volume; records and snapshots get right sums again,
// mostly.
func hurt(random *rand.Rand, image []byte) {
	n := len(image) / 512
	word := func() int {
		return []int{0, 1, 2, 3, n - 1, n, n + 1, 2047, 2048, random.Intn(n), 1 << 31, math.MaxUint32}[random.Intn(12)]
	}
	b := random.Intn(min(n, 40))
	switch random.Intn(6) {
	case 0:
		image[512*b+random.Intn(512)] ^= 1 << random.Intn(8)
	case 1:
		putWord(image, b, random.Intn(128), word())
	case 2:
		copy(image[512*b:512*b+512], image[512*random.Intn(n):])
	case 3:
		clear(image[512*b : 512*b+512])
	default:
		putWord(image, b, random.Intn(75), word())
	}
	if random.Intn(5) > 0 && (b < 2 || bytes.HasPrefix(image[512*b:], []byte("snapshot"))) {
		seal(image[512*b : 512*b+512])
	}
}

func TestHurtVolumesAtRandom(t *testing.T) {
	t.Parallel()
	random := rand.New(rand.NewSource(104))
	codes := [4]map[int]int{{}, {}, {}, {}}
	for round := range 700 {
		m := newMason([]int{64, 65, 100, 200, 200, 200, 300, 1600}[random.Intn(8)])
		p := example()
		if random.Intn(2) == 0 {
			p.file(1, "single", fileOf(14))
		}
		root := m.state(p.State)
		m.info.Ino = root
		for plane := 1; plane < 4; plane++ {
			m.snap(plane*7, fmt.Sprint("s", plane), 8+plane, root)
		}
		image := m.done()
		for range 1 + random.Intn(3) {
			hurt(random, image)
		}
		name := fmt.Sprint("round ", round)
		for k, code := range readsTheVolume(t, name, image, "s1", "s2", "s3") {
			codes[k][code]++
		}
		p.file(1, "more", "more")
		counts(t, name, image, root, p.State)
		if t.Failed() {
			return
		}
	}
	for k, name := range []string{"ChooseFsinfo", "MapWords", "Snapshots", "LoadState"} {
		if codes[k][impl.OK] < 150 || codes[k][impl.ErrCorrupt] < []int{0, 10, 30, 60}[k] {
			t.Errorf("%s: codes %v", name, codes[k])
		}
	}
}
