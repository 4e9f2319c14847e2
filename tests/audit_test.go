package tests

import (
	"bytes"
	"fmt"
	"math"
	"math/rand"
	"slices"
	"testing"

	"loop.example/s02533/impl"
)

// countsAre asks for a volume without faults, and for Gen, Used and some of Planes (all
// others are 0) as counted by hand.
func countsAre(t *testing.T, name string, image []byte, gen, used int, planes map[int]int) {
	t.Helper()
	want := impl.Report{Gen: gen, Used: used}
	for plane, many := range planes {
		want.Planes[plane] = many
	}
	if r := finds(t, name, image, found{}); !sameReport(r, want) {
		t.Errorf("%s: %s, want %s", name, tellReport(r), tellReport(want))
	}
}

// reachIs asks for the blocks of a plane as told by hand.
func reachIs(t *testing.T, name string, image []byte, plane int, want ...int) {
	t.Helper()
	if list, code := reaches(t, name, image, plane); code != impl.OK || !slices.Equal(list, want) {
		t.Errorf("%s: plane %d: %v, code %d, want %v", name, plane, list, code, want)
	}
}

// The worked examples of chapters 10 and 11, counted by hand.
func TestAuditsOfTheWorkedExamples(t *testing.T) {
	image, _ := impl.Format(64, 0, 0)
	countsAre(t, "new", image, 1, 2, map[int]int{0: 2})
	reachIs(t, "new", image, 0, 2, 3)
	withFile := becomes(t, impl.NewState(), on(impl.OpCreate, "/f"))
	plain := stepsTo(t, "a file", image, withFile, 1, impl.Act{}, 4, 5, 6)
	countsAre(t, "a file", plain, 2, 3, map[int]int{0: 3})
	reachIs(t, "a file", plain, 0, 4, 5, 6)
	one := stepsTo(t, "a snapshot", image, withFile, 1, create("one"), 4, 5, 6, 7)
	countsAre(t, "a snapshot", one, 2, 4, map[int]int{0: 3, 1: 3})
	reachIs(t, "a snapshot", one, 0, 4, 5, 7)
	reachIs(t, "a snapshot", one, 1, 4, 5, 6)
	without := becomes(t, withFile, on(impl.OpUnlink, "/f"))
	gone := stepsTo(t, "unlinked", one, without, 2, impl.Act{}, 8, 9)
	countsAre(t, "unlinked", gone, 3, 5, map[int]int{0: 2, 1: 3})
	reachIs(t, "unlinked", gone, 0, 8, 9)
	reachIs(t, "unlinked", gone, 1, 4, 5, 6)
	back := stepsTo(t, "restored", gone, withFile, 3, restore("one"), 10)
	countsAre(t, "restored", back, 4, 4, map[int]int{0: 3, 1: 3})
	reachIs(t, "restored", back, 0, 4, 5, 10)
	dropped := stepsTo(t, "deleted", gone, without, 3, toDelete("one"), 10)
	countsAre(t, "deleted", dropped, 4, 2, map[int]int{0: 2})
	reachIs(t, "deleted", dropped, 0, 8, 10)
	reachIs(t, "deleted", dropped, 1)
}

// Of two records the greater Gen counts, whichever copy has it.
func TestAuditsGoByTheChosenRecord(t *testing.T) {
	image, _ := impl.Format(64, 0, 0)
	behind := stepsTo(t, "a file", image, becomes(t, impl.NewState(), on(impl.OpCreate, "/f")), 1, impl.Act{}, 4, 5, 6)
	older, newer := bytes.Clone(behind), bytes.Clone(behind)
	copy(older[:512], image[:512])
	copy(newer[512:1024], image[:512])
	countsAre(t, "the newer in block 1", older, 2, 3, map[int]int{0: 3})
	countsAre(t, "the newer in block 0", newer, 2, 3, map[int]int{0: 3})
	clear(older[512:1024])
	countsAre(t, "the older alone", older, 1, 2, map[int]int{0: 2})
	reachIs(t, "the older alone", older, 0, 2, 3)
}

// Promise 12: a new volume's audit is without faults, and counts 1 + MapReserve blocks.
func TestAuditsOfNewVolumes(t *testing.T) {
	for n := 64; n <= 2048; n++ {
		image, _ := impl.Format(n, n%1001, []int{0, 8192, 65536}[n%3])
		spotless(t, fmt.Sprint(n, " blocks"), image)
		if n%61 != 0 && !slices.Contains([]int{64, 65, 127, 128, 129, 1535, 1536, 1537, 1538, 1664, 1665, 2047, 2048}, n) {
			continue
		}
		used := 1 + (n+127)/128
		if n > 1536 {
			used++
		}
		countsAre(t, fmt.Sprint(n, " blocks"), image, 1, used, map[int]int{0: used})
		list := []int{}
		for b := range used {
			list = append(list, 2+b)
		}
		reachIs(t, fmt.Sprint(n, " blocks"), image, 0, list...)
	}
}

// Every plane that there is is reached if it is in use, and is empty if it isn't; there
// are no others.
func TestPlanesThatAreReached(t *testing.T) {
	all, names := allPlanes()
	for _, planes := range [][]int{{}, {1}, {31}, {2, 17, 30}, all} {
		for _, n := range []int{64, 2048} {
			name := fmt.Sprint(n, " blocks, planes ", planes)
			m := snapped(n, planes, names)
			image := m.settled(t)
			finds(t, name, image, found{})
			trees := []int{2, 3, 4, 5, 6, 7, 8, 9}
			for plane := 1; plane <= 31; plane++ {
				if slices.Contains(planes, plane) {
					reachIs(t, name, image, plane, append(slices.Clone(trees), m.info.Snaps[plane-1])...)
				} else {
					reachIs(t, name, image, plane)
				}
			}
			for _, plane := range outside() {
				if list, code := impl.Reach(image, plane); code != impl.ErrRange || len(list) != 0 {
					t.Errorf("%s: plane %d: %v, code %d", name, plane, list, code)
				}
			}
			wantUsed := len(trees) + len(planes) + impl.MapReserve(n)
			counted := map[int]int{0: len(trees) + impl.MapReserve(n)}
			for _, plane := range planes {
				counted[plane] = len(trees) + 1
			}
			countsAre(t, name, image, 5, wantUsed, counted)
		}
	}
}

// A block that is reached in two planes is no fault: snapshots share what they have in
// common with the state and with each other. What differs is each plane's own.
func TestPlanesThatShareBlocks(t *testing.T) {
	image, _ := impl.Format(128, 0, 0)
	p := example()
	image = stepsTo(t, "first", image, p.State, 1, create("first"), 4, 5, 6, 7, 8, 9, 10, 11, 12, 13)
	p.Nodes[3].Data = []byte("other")
	// The file and the first block of the table, which has its inode, are fresh.
	image = stepsTo(t, "second", image, p.State, 2, create("second"), 14, 15, 16, 17)
	finds(t, "second", image, found{})
	one, _ := reaches(t, "second", image, 1)
	two, _ := reaches(t, "second", image, 2)
	now, _ := reaches(t, "second", image, 0)
	both := 0
	for _, b := range one {
		if slices.Contains(two, b) && slices.Contains(now, b) {
			both++
		}
	}
	if len(one) != 9 || len(two) != 9 || len(now) != 9 || both < 5 {
		t.Errorf("planes %v, %v, %v share %d", now, one, two, both)
	}
}

// Holes are no blocks, at any level, in files, in the table and in the map.
func TestHolesAreNotReached(t *testing.T) {
	hole := func(size int, at ...int) string {
		data := make([]byte, size)
		for _, k := range at {
			data[k] = 'x'
		}
		return string(data)
	}
	for _, c := range []struct {
		name string
		data string
		own  int
	}{
		{"no bytes", "", 0},
		{"a hole alone", hole(512), 0},
		{"the greatest hole", hole(impl.MaxFile), 0},
		{"one block of three", hole(1500, 600), 1},
		{"Single alone", hole(12*512+1, 12*512), 2},
		{"one far below Single", hole(140*512, 139*512), 2},
		{"Double alone", hole(140*512+1, 140*512), 3},
		{"one at each level", hole(140*512+1, 0, 12*512, 140*512), 6},
		{"the last block", hole(impl.MaxFile, impl.MaxFile-1), 3},
		{"two words of Double", hole(impl.MaxFile, 140*512, 268*512), 5},
		{"all words of Double", hole(impl.MaxFile, 140*512, 268*512, 396*512), 7},
	} {
		p := newPlanter()
		p.file(1, "f", c.data)
		m := newMason(64)
		m.info.Ino = m.state(p.State)
		m.snap(3, "s", 9, m.info.Ino)
		image := m.settled(t)
		// The root directory, the table, the snapshot, the map.
		countsAre(t, c.name, image, 5, c.own+4, map[int]int{0: c.own + 3, 3: c.own + 3})
	}
	// A table of which a block is a hole: inodes 4 to 7 are free.
	m := newMason(64)
	list := append(m.inodes(impl.NewState()), make([]impl.Inode, 7)...)
	list[8] = impl.Inode{Kind: impl.KindFile, Links: 1, Gen: 1, Mtime: 1, Ctime: 1, Root: m.lay([]byte("far"))}
	m.info.Ino = m.lay(plainTable(list))
	image := m.settled(t)
	countsAre(t, "a hole in the table", image, 5, 4, map[int]int{0: 4})
	reachIs(t, "a hole in the table", image, 0, 2, 3, 4, 5)
	// A map of which all but its first block are holes: it can say nothing of blocks there.
	m = newMason(400)
	m.info.Ino = m.state(impl.NewState())
	m.next = 200
	m.info.Map = m.lay(plainWords(emptyWords(400)))
	putRecords(m.image, m.info, m.info)
	r := finds(t, "holes in the map", m.image, found{missing: [][2]int{{0, 2}, {0, 200}}})
	if r.Used != 0 || r.Planes[0] != 2 {
		t.Errorf("holes in the map: %s", tellReport(r))
	}
}

// Words of a pointer block behind the end of the file do not matter, and words of a map
// behind its last one neither.
func TestWhatLiesBehindTheEndIsNotReached(t *testing.T) {
	p := newPlanter()
	p.file(1, "f", fileOf(13))
	m := newMason(65)
	inodes := m.inodes(p.State)
	m.info.Ino = m.lay(plainTable(inodes))
	image := m.settled(t)
	countsAre(t, "whole", image, 5, 17, map[int]int{0: 17})
	for _, word := range []int{1, 5, 64, 65, 2048, math.MaxUint32} {
		behind := bytes.Clone(image)
		putWord(behind, inodes[2].Root.Single, 1, word)
		putWord(behind, inodes[2].Root.Single, 127, word)
		putWord(behind, m.info.Map.Direct[0], 65, word)
		putWord(behind, m.info.Map.Direct[0], 127, word)
		countsAre(t, fmt.Sprint(word, " behind the end"), behind, 5, 17, map[int]int{0: 17})
	}
	inside := bytes.Clone(image)
	putWord(inside, inodes[2].Root.Single, 0, 65)
	notAudited(t, "ahead of the end", inside, impl.ErrCorrupt, only(0))
}

// loose is an inode of a file that no directory names: the auditor asks for no state.
func loose(r impl.Root) impl.Inode {
	return impl.Inode{Kind: impl.KindFile, Links: 1, Gen: 1, Mtime: 1, Ctime: 1, Root: r}
}

func directs(size int, blocks ...int) impl.Root {
	r := impl.Root{Size: size}
	copy(r.Direct[:], blocks)
	return r
}

// tangle is a volume of 64 blocks whose table lies at 20, its map at 30 and the snapshots
// of planes 6 and 9, which have a table each of their own at 40 and 50, at 41 and 51. Of
// blocks 60, 61 and 62 words can be pointers. Each table has what it is given.
func tangle(t *testing.T, now, six, nine []impl.Root, words ...[3]int) *mason {
	t.Helper()
	m := newMason(64)
	root := inodeWith(impl.NewState().Nodes[1], impl.Root{})
	tables := []impl.Root{}
	for k, roots := range [][]impl.Root{now, six, nine} {
		list := []impl.Inode{{}, root}
		for _, r := range roots {
			list = append(list, loose(r))
		}
		m.next = []int{20, 40, 50}[k]
		table := plainTable(list)
		copy(m.image[512*m.next:512*m.next+512], table)
		tables = append(tables, directs(len(table), m.next))
	}
	m.info.Ino, m.info.Map = tables[0], directs(256, 30)
	m.next = 41
	m.snap(6, "six", 9, tables[1])
	m.next = 51
	m.snap(9, "nine", 9, tables[2])
	for _, w := range words {
		putWord(m.image, w[0], w[1], w[2])
	}
	return m
}

func TestBlocksThatAreReachedTwice(t *testing.T) {
	type roots = []impl.Root
	single := func(blocks int, at int) impl.Root { return impl.Root{Size: 512 * blocks, Single: at} }
	double := func(blocks int, at int) impl.Root { return impl.Root{Size: 512 * blocks, Double: at} }
	for _, c := range []struct {
		name           string
		now, six, nine roots
		words          [][3]int
		twice          [][2]int
		// planes are how many different blocks each of 0, 6 and 9 has.
		planes [3]int
	}{
		{name: "nothing", planes: [3]int{2, 2, 2}},
		{name: "one tree", now: roots{directs(1024, 10, 10)}, twice: [][2]int{{0, 10}}, planes: [3]int{3, 2, 2}},
		{name: "one tree, thrice", now: roots{directs(1536, 10, 10, 10)}, twice: [][2]int{{0, 10}}, planes: [3]int{3, 2, 2}},
		{name: "one tree, twelve times", now: roots{directs(6144, 10, 10, 10, 10, 10, 10, 10, 10, 10, 10, 10, 10)}, twice: [][2]int{{0, 10}}, planes: [3]int{3, 2, 2}},
		{name: "one tree, the last block of the device", now: roots{directs(1024, 63, 63)}, twice: [][2]int{{0, 63}}, planes: [3]int{3, 2, 2}},
		{name: "one tree, the first block behind the record", now: roots{directs(1024, 2, 2)}, twice: [][2]int{{0, 2}}, planes: [3]int{3, 2, 2}},
		{name: "a data block that is Single", now: roots{{Size: 13 * 512, Direct: [12]int{60}, Single: 60}}, twice: [][2]int{{0, 60}}, planes: [3]int{3, 2, 2}},
		{name: "Single below itself", now: roots{single(13, 60)}, words: [][3]int{{60, 0, 60}}, twice: [][2]int{{0, 60}}, planes: [3]int{3, 2, 2}},
		{name: "two below Single", now: roots{single(14, 60)}, words: [][3]int{{60, 0, 10}, {60, 1, 10}}, twice: [][2]int{{0, 10}}, planes: [3]int{4, 2, 2}},
		{name: "a pointer block twice below Double", now: roots{double(269, 60)}, words: [][3]int{{60, 0, 61}, {60, 1, 61}, {61, 0, 10}}, twice: [][2]int{{0, 10}, {0, 61}}, planes: [3]int{5, 2, 2}},
		{name: "Double below itself", now: roots{double(141, 60)}, words: [][3]int{{60, 0, 60}}, twice: [][2]int{{0, 60}}, planes: [3]int{3, 2, 2}},
		{name: "Single and Double", now: roots{{Size: 141 * 512, Single: 60, Double: 60}}, twice: [][2]int{{0, 60}}, planes: [3]int{3, 2, 2}},
		{name: "two inodes", now: roots{directs(5, 10), directs(7, 10)}, twice: [][2]int{{0, 10}}, planes: [3]int{3, 2, 2}},
		{name: "two inodes that are one after the other", now: roots{directs(1024, 10, 11), directs(1024, 11, 12)}, twice: [][2]int{{0, 11}}, planes: [3]int{5, 2, 2}},
		{name: "two inodes, all of them", now: roots{directs(1024, 10, 11), directs(1024, 11, 10)}, twice: [][2]int{{0, 10}, {0, 11}}, planes: [3]int{4, 2, 2}},
		{name: "the table and an inode", now: roots{directs(5, 20)}, twice: [][2]int{{0, 20}}, planes: [3]int{2, 2, 2}},
		{name: "the map and an inode", now: roots{directs(5, 30)}, twice: [][2]int{{0, 30}}, planes: [3]int{2, 2, 2}},
		{name: "the table, the map and two inodes", now: roots{directs(600, 20, 30), directs(600, 30, 20)}, twice: [][2]int{{0, 20}, {0, 30}}, planes: [3]int{2, 2, 2}},
		{name: "a snapshot's block and its inode", six: roots{directs(5, 41)}, twice: [][2]int{{6, 41}}, planes: [3]int{2, 2, 2}},
		{name: "a snapshot's table and its inode", six: roots{directs(5, 40)}, twice: [][2]int{{6, 40}}, planes: [3]int{2, 2, 2}},
		{name: "two inodes of a snapshot", nine: roots{directs(5, 10), directs(5, 10)}, twice: [][2]int{{9, 10}}, planes: [3]int{2, 2, 3}},
		{name: "one in each plane", now: roots{directs(5, 10)}, six: roots{directs(5, 10)}, nine: roots{directs(5, 10)}, planes: [3]int{3, 3, 3}},
		{name: "another's snapshot block", now: roots{directs(5, 41)}, six: roots{directs(5, 51)}, nine: roots{directs(5, 41)}, planes: [3]int{3, 3, 3}},
		{name: "another's table", now: roots{directs(5, 40)}, six: roots{directs(5, 20)}, nine: roots{directs(600, 40, 20)}, planes: [3]int{3, 3, 4}},
		{name: "the map in a snapshot", six: roots{directs(5, 30)}, nine: roots{directs(5, 30)}, planes: [3]int{2, 3, 3}},
		{name: "the same twice in each plane", now: roots{directs(1024, 10, 10)}, six: roots{directs(1024, 10, 10)}, nine: roots{directs(1024, 10, 10)},
			twice: [][2]int{{0, 10}, {6, 10}, {9, 10}}, planes: [3]int{3, 3, 3}},
		{name: "many, out of order", now: roots{directs(2048, 15, 11, 15, 11), directs(5, 63)}, six: roots{directs(1024, 63, 3), directs(1024, 3, 63)}, nine: roots{directs(600, 51, 50)},
			twice: [][2]int{{0, 11}, {0, 15}, {6, 3}, {6, 63}, {9, 50}, {9, 51}}, planes: [3]int{5, 4, 2}},
	} {
		image := tangle(t, c.now, c.six, c.nine, c.words...).settled(t)
		r := finds(t, c.name, image, found{twice: c.twice})
		if got := [3]int{r.Planes[0], r.Planes[6], r.Planes[9]}; got != c.planes {
			t.Errorf("%s: %v different blocks, want %v", c.name, got, c.planes)
		}
		// What is reached twice without being in the map is missing, once.
		words := emptyWords(64)
		want := found{twice: c.twice}
		for plane := range 32 {
			list, _ := plainReached(image, plane)
			for _, b := range slices.Compact(list) {
				want.missing = append(want.missing, [2]int{plane, b})
			}
		}
		if r := finds(t, c.name+", no map", withWords(image, words), want); r.Used != 0 {
			t.Errorf("%s, no map: Used %d", c.name, r.Used)
		}
	}
	// One that is reached twice stands twice in Reach, one that is reached thrice thrice.
	image := tangle(t, roots{directs(2048, 15, 20, 15, 30), directs(5, 15)}, roots{directs(600, 41, 3)}, nil).settled(t)
	reachIs(t, "twice", image, 0, 15, 15, 15, 20, 20, 30, 30)
	reachIs(t, "twice", image, 6, 3, 40, 41, 41)
	reachIs(t, "twice", image, 9, 50, 51)
}

// settledAlbum is a volume of several snapshots made by operations, and its image.
func settledAlbum(t *testing.T, blocks int) []byte {
	t.Helper()
	m, _ := album(t, blocks, 0, 0)
	finds(t, "an album", m.Disk, found{})
	return m.Disk
}

// Promise 25: every bit of the map that is changed is told, as Leaked or as Missing, and
// nothing else is.
func TestEveryBitOfTheMap(t *testing.T) {
	image := settledAlbum(t, 64)
	whole, _ := impl.Audit(image)
	words, _ := impl.MapWords(image)
	for plane := range 32 {
		for b := 2; b < 64; b++ {
			name := fmt.Sprint("plane ", plane, ", block ", b)
			changed := withBit(image, plane, b)
			want := whole
			if words[b]&(1<<plane) != 0 {
				want.Missing = []int{2048*plane + b}
			} else {
				want.Leaked = []int{2048*plane + b}
			}
			if words[b] == 0 {
				want.Used++
			} else if words[b] == 1<<plane {
				want.Used--
			}
			if r, code := impl.Audit(changed); code != impl.OK || !sameReport(r, want) {
				t.Errorf("%s: %s, code %d, want %s", name, tellReport(r), code, tellReport(want))
			}
		}
	}
	// The words of the root record are 1, or there is no map.
	for _, b := range []int{0, 1} {
		for plane := range 32 {
			notAudited(t, fmt.Sprint("plane ", plane, " of block ", b), withBit(image, plane, b), impl.ErrCorrupt, always(impl.OK))
		}
	}
}

// The same on the greatest volume, whose map has sixteen blocks and Single.
func TestBitsOfAGreatMap(t *testing.T) {
	t.Parallel()
	image := settledAlbum(t, 2048)
	list, _ := impl.Reach(image, 0)
	for _, b := range append(list, 2, 63, 64, 127, 128, 511, 512, 1023, 1024, 1535, 1536, 1537, 1663, 1664, 2046, 2047) {
		for _, plane := range []int{0, 1, 2, 3, 15, 30, 31} {
			words, _ := impl.MapWords(image)
			want := found{leaked: [][2]int{{plane, b}}}
			if words[b]&(1<<plane) != 0 {
				want = found{missing: [][2]int{{plane, b}}}
			}
			finds(t, fmt.Sprint("plane ", plane, ", block ", b), withBit(image, plane, b), want)
		}
	}
}

// Many bits at a time: each list rises over the planes, each block stands there once, and
// the same is told however often it is asked.
func TestManyBitsOfTheMap(t *testing.T) {
	random := rand.New(rand.NewSource(201))
	for _, n := range []int{64, 100, 300, 2048} {
		whole := settledAlbum(t, n)
		before, _ := impl.MapWords(whole)
		for round := range 12 {
			name := fmt.Sprint(n, " blocks, round ", round)
			words, changed := slices.Clone(before), map[[2]int]bool{}
			for range 1 + random.Intn(200) {
				plane, b := []int{0, 1, 2, 3, 31, random.Intn(32)}[random.Intn(6)], 2+random.Intn(min(n-2, 60+round*10))
				words[b] ^= 1 << plane
				changed[[2]int{plane, b}] = !changed[[2]int{plane, b}]
			}
			image, want := withWords(whole, words), found{}
			for plane := range 32 {
				for b := 2; b < n; b++ {
					if at := [2]int{plane, b}; changed[at] && before[b]&(1<<plane) != 0 {
						want.missing = append(want.missing, at)
					} else if changed[at] {
						want.leaked = append(want.leaked, at)
					}
				}
			}
			first := finds(t, name, image, want)
			for range 20 {
				if r, code := impl.Audit(image); code != impl.OK || !sameReport(r, first) {
					t.Fatalf("%s: another answer: %s, code %d, at first %s", name, tellReport(r), code, tellReport(first))
				}
			}
		}
	}
}

// All bits of all blocks, and none.
func TestMapsThatSayAllAndNothing(t *testing.T) {
	for _, n := range []int{64, 2048} {
		image := settledAlbum(t, n)
		whole, _ := impl.Audit(image)
		reached := 0
		for _, many := range whole.Planes {
			reached += many
		}
		full, code := audits(t, "all", withWords(image, rightWords(n, math.MaxUint32)))
		if code != impl.OK || full.Used != n-2 || len(full.Leaked) != 32*(n-2)-reached || len(full.Missing)+len(full.Twice) != 0 || full.Planes != whole.Planes {
			t.Errorf("all: %s, code %d", tellReport(full), code)
		}
		none, code := audits(t, "nothing", withWords(image, emptyWords(n)))
		if code != impl.OK || none.Used != 0 || len(none.Missing) != reached || len(none.Leaked)+len(none.Twice) != 0 || none.Planes != whole.Planes {
			t.Errorf("nothing: %s, code %d", tellReport(none), code)
		}
	}
}
