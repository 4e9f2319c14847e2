package tests

import (
	"bytes"
	"fmt"
	"math"
	"math/rand"
	"slices"
	"strings"
	"testing"

	"loop.example/s02533/impl"
)

// nothingIsRead asks all functions of a volume for the code, and for zeros beside
// it, whatever else is wrong.
func nothingIsRead(t *testing.T, name string, image []byte, code int) {
	t.Helper()
	if got := readsTheVolume(t, name, image, "one"); got != [4]int{code, code, code, code} {
		t.Errorf("%s: codes %v, want %d", name, got, code)
	}
	for _, snap := range []string{"", "one", "..", strings.Repeat("x", 100)} {
		if s, got := impl.LoadSnap(image, snap); got != code || s.Clock != 0 || len(s.Nodes) != 0 {
			t.Errorf("%s: LoadSnap of %q: code %d, want %d", name, snap, got, code)
		}
	}
	for _, s := range []impl.State{impl.NewState(), {}, {Clock: -1, Nodes: make([]impl.Node, 5)}} {
		if n, got := impl.Room(image, s); n != 0 || got != code {
			t.Errorf("%s: Room: %d, code %d, want %d", name, n, got, code)
		}
	}
}

func TestWorkedExampleOfVolumes(t *testing.T) {
	image, code := impl.Format(64, 0, 0)
	if code != impl.OK {
		t.Fatalf("code %d", code)
	}
	f, slot, code := impl.ChooseFsinfo(image)
	want := impl.Fsinfo{Gen: 1, Blocks: 64, Cursor: 4, Clock: 1, Ino: impl.Root{Size: 256, Direct: [12]int{2}}, Map: impl.Root{Size: 256, Direct: [12]int{3}}}
	if f != want || slot != 0 || code != impl.OK {
		t.Errorf("%v, block %d, code %d", f, slot, code)
	}
	words, code := impl.MapWords(image)
	if free := slices.Repeat([]int{0}, 60); code != impl.OK || !slices.Equal(words, append([]int{1, 1, 1, 1}, free...)) {
		t.Errorf("words %v, code %d", words, code)
	}
	s := impl.NewState()
	freshOf(t, "new", image, s, 0)
	if n, code := impl.Room(image, s); n != 59 || code != impl.OK {
		t.Errorf("Room of the new state: %d, code %d", n, code)
	}
	s, _ = plainApply(s, on(impl.OpCreate, "/f", 0o644))
	freshOf(t, "with a file", image, s, 2)
	if n, code := impl.Room(image, s); n != 57 || code != impl.OK {
		t.Errorf("Room with a file: %d, code %d", n, code)
	}
	s, _ = plainApply(s, writing("/f", 6144, "x"))
	freshOf(t, "with a byte at 6144", image, s, 4)
	if n, code := impl.Room(image, s); n != 55 || code != impl.OK {
		t.Errorf("Room with a byte at 6144: %d, code %d", n, code)
	}
}

func TestVolumesOfWrongSize(t *testing.T) {
	whole := plainFormat(64, 0, 0)
	for _, size := range []int{0, 1, 511, 512, 1023, 1024, 1025, 63*512 - 1, 63 * 512, 63*512 + 1, 64*512 - 1} {
		nothingIsRead(t, fmt.Sprint(size, " bytes"), whole[:size], impl.ErrInval)
		nothingIsRead(t, fmt.Sprint(size, " zeros"), make([]byte, size), impl.ErrInval)
	}
	nothingIsRead(t, "nil", nil, impl.ErrInval)
	nothingIsRead(t, "one byte more", append(bytes.Clone(whole), 0), impl.ErrInval)
	nothingIsRead(t, "nearly a block more", append(bytes.Clone(whole), make([]byte, 511)...), impl.ErrInval)
	greatest := plainFormat(2048, 0, 0)
	for _, more := range []int{1, 511, 512, 1 << 20} {
		nothingIsRead(t, fmt.Sprint("the greatest and ", more, " bytes"), append(bytes.Clone(greatest), make([]byte, more)...), impl.ErrInval)
	}
	// A record of 63 or 2049 blocks would be for just these images, if it were right.
	for _, n := range []int{63, 2049} {
		image := blank(n)
		f := impl.Fsinfo{Gen: 1, Blocks: n, Cursor: 4, Clock: 1, Ino: impl.Root{Size: 256, Direct: [12]int{2}}, Map: impl.Root{Size: 4 * n, Direct: [12]int{3}}}
		putRecords(image, f, f)
		nothingIsRead(t, fmt.Sprint(n, " blocks"), image, impl.ErrInval)
	}
	for _, n := range []int{64, 65, 2047, 2048} {
		if got := readsTheVolume(t, fmt.Sprint(n, " blocks"), plainFormat(n, 0, 0)); got != [4]int{} {
			t.Errorf("%d blocks: codes %v", n, got)
		}
		nothingIsRead(t, fmt.Sprint(n, " blocks of zeros"), blank(n), impl.ErrCorrupt)
	}
}

func TestWhichCopyIsChosen(t *testing.T) {
	for _, n := range []int{64, 2048} {
		image := volumeOf(n, example().State)
		f, _, _ := plainChoose(image)
		for _, c := range []struct{ first, second, slot int }{
			{1, 1, 0}, {5, 5, 0}, {5, 6, 1}, {6, 5, 0}, {1, impl.MaxClock, 1}, {impl.MaxClock, 1, 0}, {impl.MaxClock, impl.MaxClock, 0},
			{impl.MaxClock - 1, impl.MaxClock, 1}, {255, 256, 1}, {256, 255, 0}, {1 << 32, 1<<32 - 1, 0}, {1, 1 << 32, 1},
		} {
			one, two := f, f
			one.Gen, one.Ops = c.first, 10
			two.Gen, two.Ops = c.second, 20
			image := bytes.Clone(image)
			putRecords(image, one, two)
			got, slot, code := impl.ChooseFsinfo(image)
			if code != impl.OK || slot != c.slot || got != []impl.Fsinfo{one, two}[c.slot] {
				t.Errorf("%d blocks, Gen %d and %d: Gen %d, block %d, code %d", n, c.first, c.second, got.Gen, slot, code)
			}
			if codes := readsTheVolume(t, "two copies", image); codes != [4]int{} {
				t.Errorf("%d blocks, Gen %d and %d: codes %v", n, c.first, c.second, codes)
			}
			// Without one of them the other is chosen, whatever its Gen.
			for gone := range 2 {
				image := bytes.Clone(image)
				clear(image[512*gone : 512*gone+512])
				if got, slot, code := impl.ChooseFsinfo(image); code != impl.OK || slot != 1-gone || got != []impl.Fsinfo{two, one}[gone] {
					t.Errorf("%d blocks, without copy %d: Gen %d, block %d, code %d", n, gone, got.Gen, slot, code)
				}
				readsTheVolume(t, "one copy", image)
			}
		}
	}
}

// What all functions read hangs at the copy that is chosen.
func TestAllIsReadFromTheChosenCopy(t *testing.T) {
	m := newMason(128)
	old := m.state(impl.NewState())
	now := m.state(example().State)
	m.info.Ino = now
	m.snap(3, "now", 9, now)
	m.done()
	one, two := m.info, m.info
	one.Ino, one.Clock, one.Snaps = old, 1, [31]int{}
	one.Map = m.lay(plainWords(emptyWords(128)))
	for _, c := range []struct{ first, second, nodes, snaps, free int }{{7, 6, 2, 0, 126}, {6, 7, 7, 1, -1}, {6, 6, 2, 0, 126}} {
		image := bytes.Clone(m.image)
		one.Gen, two.Gen = c.first, c.second
		putRecords(image, one, two)
		name := fmt.Sprint("Gen ", c.first, " and ", c.second)
		readsTheVolume(t, name, image, "now")
		s, _ := impl.LoadState(image)
		list, _ := impl.Snapshots(image)
		words, _ := impl.MapWords(image)
		if len(s.Nodes) != c.nodes || len(list) != c.snaps {
			t.Errorf("%s: %d nodes, %d snapshots", name, len(s.Nodes), len(list))
		}
		if free := slices.Index(words, 0); (free == 2) != (c.free == 126) {
			t.Errorf("%s: block %d is free", name, free)
		}
		counts(t, name, image, now, example().State)
		counts(t, name, image, old, example().State)
	}
}

func TestRecordsOfAnotherNumberOfBlocks(t *testing.T) {
	for _, c := range [][2]int{{64, 65}, {65, 64}, {64, 2048}, {2048, 64}, {2047, 2048}, {2048, 2047}, {128, 129}, {129, 128}} {
		image := plainFormat(c[0], 0, 0)
		own, _, _ := plainChoose(image)
		other, _, _ := plainChoose(plainFormat(c[1], 0, 0))
		name := fmt.Sprint(c[0], " blocks, a record of ", c[1])
		for _, gen := range []int{1, 2, impl.MaxClock} {
			other.Gen = gen
			putRecords(image, own, other)
			if f, slot, code := impl.ChooseFsinfo(image); f != own || slot != 0 || code != impl.OK {
				t.Errorf("%s in block 1: block %d, code %d", name, slot, code)
			}
			readsTheVolume(t, name, image)
			putRecords(image, other, own)
			if f, slot, code := impl.ChooseFsinfo(image); f != own || slot != 1 || code != impl.OK {
				t.Errorf("%s in block 0: block %d, code %d", name, slot, code)
			}
			readsTheVolume(t, name, image)
			putRecords(image, other, other)
			nothingIsRead(t, name, image, impl.ErrCorrupt)
		}
	}
}

func TestRecordsThatAreNotRight(t *testing.T) {
	whole := volumeOf(64, example().State)
	f, _, _ := plainChoose(whole)
	f.Gen = 6
	putRecords(whole, f, f)
	older := f
	older.Gen = 5
	for at := 0; at < 512; at += 3 {
		image := bytes.Clone(whole)
		image[at] ^= 1 << (at % 8)
		if _, slot, code := impl.ChooseFsinfo(image); slot != 1 || code != impl.OK {
			t.Errorf("byte %d of block 0: block %d, code %d", at, slot, code)
		}
		copy(image[512:], plainFsinfo(older))
		if got, slot, code := impl.ChooseFsinfo(image); got != older || slot != 1 || code != impl.OK {
			t.Errorf("byte %d of block 0, an older one in 1: block %d, code %d", at, slot, code)
		}
		image[1023-at] ^= 1
		if _, _, code := impl.ChooseFsinfo(image); code != impl.ErrCorrupt {
			t.Errorf("byte %d of block 0 and one of block 1: code %d", at, code)
		}
		image = bytes.Clone(whole)
		image[512+at] ^= 1 << (at % 8)
		if _, slot, code := impl.ChooseFsinfo(image); slot != 0 || code != impl.OK {
			t.Errorf("byte %d of block 1: block %d, code %d", at, slot, code)
		}
	}
	// With a right sum, but not right.
	for name, change := range map[string]func(f *impl.Fsinfo){
		"Gen 0":                 func(f *impl.Fsinfo) { f.Gen = 0 },
		"Gen beyond MaxClock":   func(f *impl.Fsinfo) { f.Gen = impl.MaxClock + 1 },
		"Clock 0":               func(f *impl.Fsinfo) { f.Clock = 0 },
		"the cursor at 1":       func(f *impl.Fsinfo) { f.Cursor = 1 },
		"the cursor at N":       func(f *impl.Fsinfo) { f.Cursor = 64 },
		"Every":                 func(f *impl.Fsinfo) { f.Every = 1001 },
		"Log":                   func(f *impl.Fsinfo) { f.Log = 8191 },
		"no table":              func(f *impl.Fsinfo) { f.Ino = impl.Root{} },
		"a table of one inode":  func(f *impl.Fsinfo) { f.Ino = impl.Root{Size: 128, Direct: [12]int{2}} },
		"a table beyond N":      func(f *impl.Fsinfo) { f.Ino.Direct[0] = 64 },
		"no map":                func(f *impl.Fsinfo) { f.Map = impl.Root{} },
		"a word too few":        func(f *impl.Fsinfo) { f.Map.Size = 4 * 63 },
		"a word too many":       func(f *impl.Fsinfo) { f.Map.Size = 4 * 65 },
		"a byte too many":       func(f *impl.Fsinfo) { f.Map.Size = 4*64 + 1 },
		"a map beyond N":        func(f *impl.Fsinfo) { f.Map.Direct[0] = 64 },
		"a snapshot at N":       func(f *impl.Fsinfo) { f.Snaps[0] = 64 },
		"a snapshot beyond N":   func(f *impl.Fsinfo) { f.Snaps[30] = 65 },
		"a snapshot at 2047":    func(f *impl.Fsinfo) { f.Snaps[7] = 2047 },
		"a snapshot at block 1": func(f *impl.Fsinfo) { f.Snaps[7] = 1 },
		"Blocks 65":             func(f *impl.Fsinfo) { f.Blocks = 65 },
		"Blocks 65 of a map":    func(f *impl.Fsinfo) { f.Blocks = 65; f.Map.Size = 260 },
	} {
		wrong := f
		change(&wrong)
		image := bytes.Clone(whole)
		copy(image, plainFsinfo(wrong))
		if got, slot, code := impl.ChooseFsinfo(image); got != f || slot != 1 || code != impl.OK {
			t.Errorf("%s in block 0: block %d, code %d", name, slot, code)
		}
		image = bytes.Clone(whole)
		copy(image[512:], plainFsinfo(wrong))
		if got, slot, code := impl.ChooseFsinfo(image); got != f || slot != 0 || code != impl.OK {
			t.Errorf("%s in block 1: block %d, code %d", name, slot, code)
		}
		copy(image, plainFsinfo(wrong))
		nothingIsRead(t, name, image, impl.ErrCorrupt)
	}
}

// mappedVolume is a new volume of so many blocks whose map has these words.
func mappedVolume(words []int) []byte {
	m := newMason(len(words))
	m.info.Ino = m.state(impl.NewState())
	m.words = words
	m.info.Map = m.lay(plainWords(slices.Clone(words)))
	putRecords(m.image, m.info, m.info)
	return m.image
}

func TestMapsThatAreRead(t *testing.T) {
	random := rand.New(rand.NewSource(101))
	for _, n := range []int{64, 65, 127, 128, 129, 1536, 1537, 1700, 2047, 2048} {
		for _, free := range []int{1, 2, 100} {
			words := randomWords(random, n, free)
			image := mappedVolume(slices.Clone(words))
			name := fmt.Sprint(n, " words")
			if got, code := impl.MapWords(image); code != impl.OK || !slices.Equal(got, words) {
				t.Errorf("%s: %d, code %d", name, len(got), code)
			}
			readsTheVolume(t, name, image)
			counts(t, name, image, impl.Root{}, example().State)
		}
		// A block of the map that is a hole says that all is free there.
		image := mappedVolume(emptyWords(n))
		if words, code := impl.MapWords(image); code != impl.OK || !slices.Equal(words, emptyWords(n)) {
			t.Errorf("%d words, holes: code %d", n, code)
		}
		if room, code := impl.Room(image, impl.NewState()); code != impl.OK || room != n-2-impl.MapReserve(n) {
			t.Errorf("%d words, holes: Room %d, code %d", n, room, code)
		}
		// Words behind the last one are none.
		f, _, _ := plainChoose(image)
		if last := (n - 1) / 128; n%128 != 0 && last < 12 && f.Map.Direct[last] != 0 {
			putWord(image, f.Map.Direct[last], n%128, 77)
			putWord(image, f.Map.Direct[last], 127, 78)
			if got := readsTheVolume(t, "words behind the end", image); got != [4]int{} {
				t.Errorf("%d words and more behind: codes %v", n, got)
			}
		}
	}
}

// mapIsRefused asks MapWords and Room for ErrCorrupt, and for nothing of the
// others.
func mapIsRefused(t *testing.T, name string, image []byte) {
	t.Helper()
	if got := readsTheVolume(t, name, image); got != [4]int{impl.OK, impl.ErrCorrupt, impl.OK, impl.OK} {
		t.Errorf("%s: codes %v", name, got)
	}
	f, _, _ := plainChoose(image)
	for _, s := range []impl.State{impl.NewState(), example().State, {}} {
		counts(t, name, image, f.Ino, s)
		if n, code := impl.Room(image, s); n != 0 || code != impl.ErrCorrupt {
			t.Errorf("%s: Room %d, code %d", name, n, code)
		}
	}
}

func TestMapsThatAreNotRight(t *testing.T) {
	for _, n := range []int{64, 128, 1537, 2048} {
		for _, at := range []int{0, 1} {
			for _, word := range []int{0, 2, 3, 1 << 31, 1<<31 + 1, 1<<32 - 1} {
				words := emptyWords(n)
				words[at], words[n-1] = word, 1
				mapIsRefused(t, fmt.Sprintf("%d words, word %d is %d", n, at, word), mappedVolume(words))
			}
		}
		image := withRecord(mappedVolume(emptyWords(n)), func(f *impl.Fsinfo) { f.Map.Direct[0] = 0 })
		mapIsRefused(t, fmt.Sprint(n, " words, a hole at word 0"), image)
		image = withRecord(image, func(f *impl.Fsinfo) { f.Map = impl.Root{Size: 4 * n} })
		mapIsRefused(t, fmt.Sprint(n, " words, holes only"), image)
	}
}

func TestMapsThatCannotBeRead(t *testing.T) {
	t.Parallel()
	for _, n := range []int{1537, 1800, 2047, 2048} {
		words := slices.Repeat([]int{1}, n)
		image := mappedVolume(words)
		f, _, _ := plainChoose(image)
		for _, bad := range []int{1, n, n + 1, 2048, 1 << 31, math.MaxUint32} {
			for word := range 128 {
				image := bytes.Clone(image)
				putWord(image, f.Map.Single, word, bad)
				name := fmt.Sprint(n, " words, ", bad, " at word ", word, " of Single")
				if 12+word < (n+127)/128 {
					mapIsRefused(t, name, image)
				} else if got, code := impl.MapWords(image); code != impl.OK || !slices.Equal(got, words) {
					t.Errorf("%s: code %d", name, code)
				}
			}
		}
	}
}

// snapped is a volume with snapshots of these names at these planes.
func snapped(blocks int, planes []int, names []string) *mason {
	m := newMason(blocks)
	root := m.state(example().State)
	m.info.Ino = root
	for k, plane := range planes {
		m.snap(plane, names[k], 9+k, root)
	}
	return m
}

func TestSnapshotsThatAreThere(t *testing.T) {
	all, names := []int{}, []string{}
	for plane := 1; plane <= 31; plane++ {
		all = append(all, plane)
		names = append(names, fmt.Sprintf("%02d", 40-plane))
	}
	for _, c := range []struct {
		planes []int
		names  []string
	}{
		{nil, nil},
		{[]int{1}, []string{"one"}},
		{[]int{31}, []string{"last"}},
		{[]int{2, 7, 30}, []string{"z", "a", "m"}},
		{[]int{30, 7, 2}, []string{"z", "a", "m"}},
		{[]int{5, 6}, []string{"a", "A"}},
		{[]int{5, 6, 9}, []string{"a", "ab", "b"}},
		{[]int{1, 31}, []string{strings.Repeat("x", 26), strings.Repeat("x", 25)}},
		{[]int{3}, []string{".snapshot"}},
		{[]int{3}, []string{"\xff \n"}},
		{all, names},
	} {
		for _, blocks := range []int{64, 2048} {
			m := snapped(blocks, c.planes, c.names)
			image := m.done()
			name := fmt.Sprint("planes ", c.planes)
			if got := readsTheVolume(t, name, image); got != [4]int{} {
				t.Errorf("%s: codes %v", name, got)
			}
			list, _ := impl.Snapshots(image)
			if len(list) != len(c.planes) || !slices.IsSortedFunc(list, func(a, b impl.Snap) int { return a.Plane - b.Plane }) {
				t.Errorf("%s: %v", name, list)
			}
			for k, snap := range c.names {
				s, code := impl.LoadSnap(image, snap)
				if want := (impl.State{Clock: 9 + k, Nodes: example().Nodes}); code != impl.OK || !sameState(s, want) {
					t.Errorf("%s: LoadSnap of %q: Clock %d, code %d", name, snap, s.Clock, code)
				}
			}
			for _, snap := range []string{"", ".", "nobody", "on", "onee", "ONE", strings.Repeat("x", 24), strings.Repeat("x", 27), strings.Repeat("x", 5000), "a\x00", "/"} {
				if slices.Contains(c.names, snap) {
					continue
				}
				if s, code := impl.LoadSnap(image, snap); code != impl.ErrNoEnt || s.Clock != 0 || len(s.Nodes) != 0 {
					t.Errorf("%s: LoadSnap of %q: code %d", name, snap, code)
				}
			}
		}
	}
}

// A snapshot may lie in any block from 2 to N - 1.
func TestWhereSnapshotsLie(t *testing.T) {
	for _, n := range []int{64, 100, 2048} {
		for _, b := range []int{40, n - 2, n - 1} {
			m := snapped(n, nil, nil)
			m.next = b
			m.snap(4, "far", 9, m.info.Ino)
			m.next = 30
			image := m.done()
			if got := readsTheVolume(t, fmt.Sprint("at ", b, " of ", n), image); got != [4]int{} {
				t.Errorf("at %d of %d: codes %v", b, n, got)
			}
			if list, _ := impl.Snapshots(image); len(list) != 1 || list[0].Name != "far" {
				t.Errorf("at %d of %d: %v", b, n, list)
			}
		}
		for _, b := range []int{n, n + 1, 2047, 2048, 1 << 31, math.MaxUint32} {
			if b < n {
				continue
			}
			image := withRecord(snapped(n, []int{1}, []string{"one"}).done(), func(f *impl.Fsinfo) { f.Snaps[3] = b })
			nothingIsRead(t, fmt.Sprint("at ", b, " of ", n), image, impl.ErrCorrupt)
		}
	}
}

// snapsAreRefused asks Snapshots for ErrCorrupt, and LoadSnap for any name.
func snapsAreRefused(t *testing.T, name string, image []byte) {
	t.Helper()
	if got := readsTheVolume(t, name, image, "one", "two", "three"); got != [4]int{impl.OK, impl.OK, impl.ErrCorrupt, impl.OK} {
		t.Errorf("%s: codes %v", name, got)
	}
	for _, snap := range []string{"one", "two", "nobody", ""} {
		if s, code := impl.LoadSnap(image, snap); code != impl.ErrCorrupt || s.Clock != 0 || len(s.Nodes) != 0 {
			t.Errorf("%s: LoadSnap of %q: code %d", name, snap, code)
		}
	}
}

func TestSnapshotsThatAreNotWhatTheyShouldBe(t *testing.T) {
	m := snapped(64, []int{2, 5, 9}, []string{"one", "two", "three"})
	whole := m.done()
	if got := readsTheVolume(t, "whole", whole); got != [4]int{} {
		t.Fatalf("codes %v", got)
	}
	first, middle, last := m.info.Snaps[1], m.info.Snaps[4], m.info.Snaps[8]
	change := func(block int, how func(s *impl.Snap)) []byte {
		image := bytes.Clone(whole)
		s, _ := impl.DecodeSnap(image[512*block : 512*block+512])
		how(&s)
		copy(image[512*block:], plainSnap(s))
		return image
	}
	for _, block := range []int{first, middle, last} {
		for at := 0; at < 512; at += 7 {
			image := bytes.Clone(whole)
			image[512*block+at] ^= 1 << (at % 8)
			snapsAreRefused(t, fmt.Sprintf("byte %d of block %d", at, block), image)
		}
		for _, plane := range []int{0, 1, 3, 4, 6, 8, 10, 31, 32, 255} {
			image := change(block, func(s *impl.Snap) { s.Plane = plane })
			snapsAreRefused(t, fmt.Sprintf("Plane %d in block %d", plane, block), image)
		}
		for _, bad := range []string{"", ".", "..", "a/b", "a\x00", "\x00"} {
			image := change(block, func(s *impl.Snap) { s.Name = bad })
			snapsAreRefused(t, fmt.Sprintf("the name %q in block %d", bad, block), image)
		}
		image := bytes.Clone(whole)
		clear(image[512*block : 512*block+512])
		snapsAreRefused(t, fmt.Sprint("zeros in block ", block), image)
		copy(image[512*block:], image[:512])
		snapsAreRefused(t, fmt.Sprint("the record in block ", block), image)
		for _, twin := range []string{"one", "two", "three"} {
			image := change(block, func(s *impl.Snap) { s.Name = twin })
			if bytes.Equal(image, whole) {
				continue
			}
			snapsAreRefused(t, fmt.Sprintf("the name %q twice, in block %d", twin, block), image)
		}
		// Two that trade places have each the other's Plane.
		image = withRecord(whole, func(f *impl.Fsinfo) { f.Snaps[1], f.Snaps[4], f.Snaps[8] = f.Snaps[4], f.Snaps[8], f.Snaps[1] })
		snapsAreRefused(t, "planes that trade places", image)
	}
	for plane := range 31 {
		image := withRecord(whole, func(f *impl.Fsinfo) { f.Snaps[plane] = m.info.Ino.Direct[0] })
		snapsAreRefused(t, fmt.Sprint("plane ", plane+1, " at a block of the table"), image)
		image = withRecord(whole, func(f *impl.Fsinfo) { f.Snaps[plane] = 63 })
		snapsAreRefused(t, fmt.Sprint("plane ", plane+1, " at an empty block"), image)
		if plane != 4 {
			image = withRecord(whole, func(f *impl.Fsinfo) { f.Snaps[plane] = middle })
			snapsAreRefused(t, fmt.Sprint("plane ", plane+1, " at another's block"), image)
		}
	}
}

// Of a snapshot only its own state matters, with its own Clock, and to nobody else.
func TestTheStateOfASnapshot(t *testing.T) {
	p := example()
	m := newMason(256)
	early := m.state(impl.NewState())
	late := m.state(p.State)
	lost := impl.Root{Size: 1024, Direct: [12]int{early.Direct[0], 300}}
	empty := impl.Root{Size: 896}
	m.info.Ino, m.info.Clock = late, 9
	m.snap(1, "early", 1, early)
	m.snap(2, "younger", 500, late)
	m.snap(3, "just", 9, late)
	m.snap(4, "too old", 8, late)
	m.snap(5, "lost", 9, lost)
	m.snap(6, "empty", 9, empty)
	m.snap(7, "greatest", impl.MaxClock, early)
	image := m.done()
	if got := readsTheVolume(t, "all", image); got != [4]int{} {
		t.Errorf("codes %v", got)
	}
	for name, want := range map[string]struct{ code, clock, nodes int }{
		"early": {impl.OK, 1, 2}, "younger": {impl.OK, 500, 7}, "just": {impl.OK, 9, 7}, "too old": {impl.ErrCorrupt, 0, 0},
		"lost": {impl.ErrCorrupt, 0, 0}, "empty": {impl.ErrCorrupt, 0, 0}, "greatest": {impl.OK, impl.MaxClock, 2}, "nobody": {impl.ErrNoEnt, 0, 0},
	} {
		if s, code := impl.LoadSnap(image, name); code != want.code || s.Clock != want.clock || len(s.Nodes) != want.nodes {
			t.Errorf("%s: Clock %d, %d nodes, code %d, want %v", name, s.Clock, len(s.Nodes), code, want)
		}
	}
	// The state and the map may be lost, the snapshots stand.
	broken := withRecord(image, func(f *impl.Fsinfo) { f.Ino = impl.Root{Size: 256}; f.Map = impl.Root{Size: 1024} })
	if got := readsTheVolume(t, "broken", broken); got != [4]int{impl.OK, impl.ErrCorrupt, impl.OK, impl.ErrCorrupt} {
		t.Errorf("broken: codes %v", got)
	}
	if s, code := impl.LoadSnap(broken, "just"); code != impl.OK || len(s.Nodes) != 7 {
		t.Errorf("broken: %d nodes, code %d", len(s.Nodes), code)
	}
}

// fileOf has so many blocks, all of them different.
func fileOf(many int) string {
	b := make([]byte, 512*many)
	for k := range many {
		copy(b[512*k:], fmt.Sprint("block ", k))
	}
	return string(b)
}

// manyFiles are so many files of one block below the root.
func manyFiles(many int) *planter {
	p := newPlanter()
	for k := range many {
		p.file(1, numberedName(k), "file "+numberedName(k))
	}
	return p
}

func TestStatesThatAreLoaded(t *testing.T) {
	t.Parallel()
	random := rand.New(rand.NewSource(102))
	free := example()
	free.Nodes = append(free.Nodes, make([]impl.Node, 60)...)
	free.file(2, "behind", fileOf(3))
	sparse := example()
	sparse.file(1, "sparse", strings.Repeat("\x00", 200000)+"x"+strings.Repeat("\x00", 600))
	sparse.file(1, "zeros", strings.Repeat("\x00", impl.MaxFile))
	sparse.file(1, "short", "\x00")
	for _, c := range []struct {
		name   string
		blocks int
		s      impl.State
	}{
		{"new", 64, impl.NewState()},
		{"new", 2048, impl.NewState()},
		{"example", 64, example().State},
		{"free nodes", 64, free.State},
		{"sparse files", 64, sparse.State},
		{"Single", 64, func() impl.State { p := example(); p.file(1, "big", fileOf(30)); return p.State }()},
		{"Double", 300, func() impl.State { p := example(); p.file(1, "big", fileOf(141)); return p.State }()},
		{"MaxFile", 600, func() impl.State { p := example(); p.file(1, "big", fileOf(512)); return p.State }()},
		{"a table of 12 blocks", 100, manyFiles(46).State},
		{"a table of 13 blocks", 100, manyFiles(47).State},
		{"a table of 140 blocks", 800, manyFiles(558).State},
		{"a table of 141 blocks", 800, manyFiles(559).State},
		{"the greatest table", 2048, manyFiles(999).State},
		{"the deepest chain", 2048, chainOf(998, "d").State},
		{"a star", 2048, starOf(998).State},
		{"any", 2048, anyState(random, 300).State},
	} {
		image := volumeOf(c.blocks, c.s)
		if got := readsTheVolume(t, c.name, image); got != [4]int{} {
			t.Errorf("%s: codes %v", c.name, got)
		}
		if s, code := impl.LoadState(image); code != impl.OK || !sameState(s, c.s) {
			t.Errorf("%s: %d nodes, code %d", c.name, len(s.Nodes), code)
		}
		freshOf(t, c.name, image, c.s, 0)
	}
}

// As many bytes as may be can be loaded, by holes also from a small volume; with
// one more they can't.
func TestTheMostBytesThatAreLoaded(t *testing.T) {
	for _, more := range []int{0, 1, 512} {
		p := newPlanter()
		for k := range 3 {
			p.file(1, numberedName(k), strings.Repeat("\x00", impl.MaxFile))
		}
		p.file(1, "rest", strings.Repeat("\x00", impl.MaxFile-512+more))
		image := volumeOf(64, p.State)
		want := impl.OK
		if more > 0 {
			want = impl.ErrCorrupt
		}
		if got := readsTheVolume(t, fmt.Sprint(more, " too many"), image); got[3] != want {
			t.Errorf("%d bytes too many: code %d", more, got[3])
		}
	}
	m := newMason(2048)
	list := make([]impl.Inode, 1001)
	for number := range list[1:] {
		list[number+1] = impl.Inode{Kind: 1, Links: 1, Gen: 1, Mtime: 1, Ctime: 1, Root: impl.Root{Size: impl.MaxFile}}
	}
	list[1] = rootInode()
	m.info.Ino = m.lay(plainTable(list))
	if s, code := impl.LoadState(m.done()); code != impl.ErrCorrupt || len(s.Nodes) != 0 {
		t.Errorf("a thousand files of MaxFile bytes: code %d", code)
	}
}

// stateIsLost asks LoadState for ErrCorrupt, and for nothing of the others but
// those that read the table.
func stateIsLost(t *testing.T, name string, image []byte) {
	t.Helper()
	if got := readsTheVolume(t, name, image); got != [4]int{impl.OK, impl.OK, impl.OK, impl.ErrCorrupt} {
		t.Errorf("%s: codes %v", name, got)
	}
}

// tableIsLost asks also what is counted against the table for ErrCorrupt.
func tableIsLost(t *testing.T, name string, image []byte) {
	t.Helper()
	stateIsLost(t, name, image)
	f, _, _ := plainChoose(image)
	for _, s := range []impl.State{impl.NewState(), example().State, {}} {
		if n, code := counts(t, name, image, f.Ino, s); n != 0 || code != impl.ErrCorrupt {
			t.Errorf("%s: %d fresh blocks, code %d", name, n, code)
		}
	}
}

func TestTablesThatCannotBeRead(t *testing.T) {
	for _, c := range []struct{ files, blocks int }{{60, 200}, {560, 1000}} {
		whole := volumeOf(c.blocks, manyFiles(c.files).State)
		f, _, _ := plainChoose(whole)
		end := (f.Ino.Size + 511) / 512
		spots := [][3]int{{f.Ino.Single, 0, 12}, {f.Ino.Single, end - 13, end - 1}, {f.Ino.Single, end - 12, end}}
		if f.Ino.Double != 0 {
			below := wordAt(whole, f.Ino.Double, 0)
			spots = [][3]int{{f.Ino.Single, 0, 12}, {f.Ino.Single, 127, 139}, {f.Ino.Double, 0, 140}, {f.Ino.Double, 1, 268}, {below, 0, 140}, {below, end - 141, end - 1}, {below, end - 140, end}}
		}
		for _, at := range spots {
			for _, bad := range []int{1, c.blocks, c.blocks + 1, 2047, 2048, math.MaxUint32} {
				image := bytes.Clone(whole)
				putWord(image, at[0], at[1], bad)
				name := fmt.Sprintf("%d files, %d at word %d", c.files, bad, at[1])
				if at[2] < end {
					tableIsLost(t, name, image)
				} else if got := readsTheVolume(t, name, image); got != [4]int{} {
					t.Errorf("%s: codes %v", name, got)
				}
			}
		}
	}
}

func TestTablesThatDecodeTableRefuses(t *testing.T) {
	for name, spoil := range map[string]func(list []impl.Inode) []byte{
		"inode 0 is used": func(list []impl.Inode) []byte { list[0] = fileInode(1); return plainTable(list) },
		"inode 0 nearly":  func(list []impl.Inode) []byte { b := plainTable(list); b[127] = 1; return b },
		"the last is free": func(list []impl.Inode) []byte {
			return append(plainTable(list), make([]byte, 128)...)
		},
		"free ones at the end": func(list []impl.Inode) []byte { return append(plainTable(list), make([]byte, 1024)...) },
		"a filling byte":       func(list []impl.Inode) []byte { b := plainTable(list); b[128+1] = 1; return b },
		"bytes behind a Root":  func(list []impl.Inode) []byte { b := plainTable(list); b[128+104] = 1; return b },
		"Kind 4":               func(list []impl.Inode) []byte { list[3].Kind = 4; return plainTable(list) },
		"no Links":             func(list []impl.Inode) []byte { list[3].Links = 0; return plainTable(list) },
		"no Gen":               func(list []impl.Inode) []byte { list[3].Gen = 0; return plainTable(list) },
		"a pointer of 1":       func(list []impl.Inode) []byte { list[3].Root.Direct[0] = 1; return plainTable(list) },
		"a pointer of 2048":    func(list []impl.Inode) []byte { list[3].Root.Direct[0] = 2048; return plainTable(list) },
		"a pointer too many":   func(list []impl.Inode) []byte { list[3].Root.Direct[1] = 5; return plainTable(list) },
		"too long a file":      func(list []impl.Inode) []byte { list[3].Root.Size = impl.MaxFile + 1; return plainTable(list) },
		"Parent of a file":     func(list []impl.Inode) []byte { list[3].Parent = 2; return plainTable(list) },
	} {
		m := newMason(64)
		m.info.Ino = m.lay(spoil(m.inodes(example().State)))
		tableIsLost(t, name, m.done())
	}
	// Of all sizes that a record may tell.
	whole := volumeOf(64, example().State)
	for _, size := range []int{256, 384, 512, 640, 768, 896, 1024, 6144, 128 * 1001} {
		image := withRecord(whole, func(f *impl.Fsinfo) { f.Ino = impl.Root{Size: size} })
		f, _, _ := plainChoose(image)
		if _, code := plainInodes(image, f.Ino); code == impl.OK {
			stateIsLost(t, fmt.Sprint(size, " zeros"), image)
		} else {
			tableIsLost(t, fmt.Sprint(size, " zeros"), image)
		}
	}
	for _, size := range []int{640, 768, 1024} {
		image := withRecord(whole, func(f *impl.Fsinfo) { f.Ino.Size = size })
		stateIsLost(t, fmt.Sprint("the example in ", size, " bytes"), image)
	}
}

func TestTreesOfInodesThatCannotBeRead(t *testing.T) {
	p := example()
	p.file(1, "single", fileOf(20))
	p.file(1, "double", fileOf(145))
	for number, pointers := range map[int][]func(r *impl.Root) *int{
		1: {func(r *impl.Root) *int { return &r.Direct[0] }},
		2: {func(r *impl.Root) *int { return &r.Direct[0] }},
		3: {func(r *impl.Root) *int { return &r.Direct[0] }},
		4: {func(r *impl.Root) *int { return &r.Direct[0] }},
		7: {func(r *impl.Root) *int { return &r.Direct[0] }, func(r *impl.Root) *int { return &r.Direct[11] }, func(r *impl.Root) *int { return &r.Single }},
		8: {func(r *impl.Root) *int { return &r.Direct[5] }, func(r *impl.Root) *int { return &r.Single }, func(r *impl.Root) *int { return &r.Double }},
	} {
		for k, pointer := range pointers {
			for _, bad := range []int{256, 257, 300, 2046, 2047} {
				m := newMason(256)
				list := m.inodes(p.State)
				*pointer(&list[number].Root) = bad
				m.info.Ino = m.lay(plainTable(list))
				image := m.done()
				name := fmt.Sprintf("%d at pointer %d of inode %d", bad, k, number)
				stateIsLost(t, name, image)
				referencesOf(t, name, image, m.info.Ino, p, number)
			}
		}
	}
	m := newMason(256)
	list := m.inodes(p.State)
	m.info.Ino = m.lay(plainTable(list))
	whole := m.done()
	below := wordAt(whole, list[8].Root.Double, 0)
	for _, at := range []struct{ number, block, word, index int }{
		{7, list[7].Root.Single, 0, 12}, {7, list[7].Root.Single, 7, 19}, {7, list[7].Root.Single, 8, 20}, {7, list[7].Root.Single, 127, 139},
		{8, list[8].Root.Single, 127, 139}, {8, list[8].Root.Double, 0, 140}, {8, list[8].Root.Double, 1, 268}, {8, below, 4, 144}, {8, below, 5, 145},
	} {
		for _, bad := range []int{1, 256, 2047, 2048, math.MaxUint32} {
			image := bytes.Clone(whole)
			putWord(image, at.block, at.word, bad)
			name := fmt.Sprintf("%d at word %d, inode %d", bad, at.word, at.number)
			if end := len(p.Nodes[at.number].Data) / 512; at.index < end {
				stateIsLost(t, name, image)
				referencesOf(t, name, image, m.info.Ino, p, at.number)
			} else if got := readsTheVolume(t, name, image); got != [4]int{} {
				t.Errorf("%s: codes %v", name, got)
			}
		}
	}
}

// referencesOf counts against a table of which one inode's tree can't be read: it
// matters if there is a node of its number.
func referencesOf(t *testing.T, name string, image []byte, ref impl.Root, p *planter, number int) {
	t.Helper()
	if _, code := counts(t, name, image, ref, p.State); code != impl.ErrCorrupt {
		t.Errorf("%s, used: code %d", name, code)
	}
	for _, data := range []string{"", "x"} {
		short := copyOf(p.State)
		if short.Nodes[number].Kind != 1 {
			break
		}
		short.Nodes[number].Data = []byte(data)
		if _, code := counts(t, name, image, ref, short); code != impl.ErrCorrupt {
			t.Errorf("%s, used for a file of %d bytes: code %d", name, len(data), code)
		}
	}
	if number == 1 {
		return
	}
	few := newPlanter()
	for len(few.Nodes) < number {
		few.file(1, numberedName(len(few.Nodes)), "few")
	}
	if _, code := counts(t, name, image, ref, few.State); code != impl.OK {
		t.Errorf("%s, behind the last node: code %d", name, code)
	}
	few.Nodes = append(few.Nodes, impl.Node{})
	few.file(1, "behind", "behind")
	if _, code := counts(t, name, image, ref, few.State); code != impl.OK {
		t.Errorf("%s, at a free node: code %d", name, code)
	}
}

// States that are whole on the device, but not right.
func TestStatesThatAreLostByTheirNodes(t *testing.T) {
	lost := 0
	for _, list := range [][]spoiling{wrongNumbers(), notFree(), wrongData(), wrongEntries(), circles()} {
		for _, c := range list {
			p := example()
			c.spoil(p)
			if plainSize(p.State) > 100000 || len(p.Nodes) > 1001 {
				continue
			}
			m := newMason(400)
			nodes := m.inodes(p.State)
			if _, code := impl.EncodeTable(nodes); code != impl.OK || p.Clock < 1 || p.Clock > impl.MaxClock {
				continue
			}
			lost++
			m.info.Clock = p.Clock
			m.info.Ino = m.lay(plainTable(nodes))
			image := m.done()
			stateIsLost(t, c.name, image)
			if n, code := counts(t, c.name, image, m.info.Ino, p.State); n != 0 || code != impl.ErrCorrupt {
				t.Errorf("%s: %d fresh blocks, code %d", c.name, n, code)
			}
		}
	}
	if lost < 60 {
		t.Errorf("only %d states were laid down", lost)
	}
}

func TestTheClockOfTheRecord(t *testing.T) {
	whole := volumeOf(64, example().State)
	for _, clock := range []int{1, 2, 8} {
		image := withRecord(whole, func(f *impl.Fsinfo) { f.Clock = clock })
		stateIsLost(t, fmt.Sprint("Clock ", clock), image)
		freshOf(t, fmt.Sprint("Clock ", clock), image, example().State, 0)
	}
	for _, clock := range []int{9, 10, impl.MaxClock} {
		image := withRecord(whole, func(f *impl.Fsinfo) { f.Clock = clock })
		if s, code := impl.LoadState(image); code != impl.OK || s.Clock != clock || len(s.Nodes) != 7 {
			t.Errorf("Clock %d: %d, code %d", clock, s.Clock, code)
		}
		readsTheVolume(t, fmt.Sprint("Clock ", clock), image)
	}
}
