package tests

import (
	"bytes"
	"fmt"
	"math"
	"math/rand"
	"slices"
	"testing"

	"loop.example/s02533/impl"
)

// shelf is a volume with three snapshots: plane 2 has the state's own trees, planes 5 and
// 31 have a state each of their own.
func shelf(t *testing.T, blocks int) *mason {
	t.Helper()
	m := newMason(blocks)
	p := example()
	p.file(1, "single", fileOf(14))
	m.info.Ino = m.state(p.State)
	m.snap(2, "same", 9, m.info.Ino)
	for _, plane := range []int{5, 31} {
		p.file(1, fmt.Sprint("more", plane), "more")
		m.snap(plane, fmt.Sprint("own", plane), 9, m.state(p.State))
	}
	return m
}

// An image that isn't right in size: ErrInval, but a plane that there is not comes first.
func TestAuditsOfImagesOfAWrongSize(t *testing.T) {
	whole := shelf(t, 200).settled(t)
	small := shelf(t, 200)
	longest := append(plainFormat(2048, 0, 0), make([]byte, 512)...)
	for name, image := range map[string][]byte{
		"nil": nil, "empty": {}, "one byte": {1}, "a block": whole[:512], "63 blocks": whole[:63*512], "2049 blocks": longest,
		"a byte less": whole[:len(whole)-1], "a byte more": append(bytes.Clone(whole), 0), "a sector more": append(bytes.Clone(whole), make([]byte, 128)...),
		"63 blocks of zeros": blank(63), "2049 blocks of zeros": blank(2049), "a broken record too": small.image[:len(small.image)-3],
		"a broken snapshot too": withRecord(whole, func(f *impl.Fsinfo) { f.Snaps[7] = 199 })[:len(whole)-512*137],
	} {
		notAudited(t, name, image, impl.ErrInval, always(impl.ErrInval))
	}
}

// Without a right record there is nothing to be reached.
func TestAuditsWithoutARecord(t *testing.T) {
	whole := shelf(t, 200).settled(t)
	finds(t, "whole", whole, found{})
	torn := bytes.Clone(whole)
	torn[100], torn[700] = torn[100]^1, torn[700]^1
	for name, image := range map[string][]byte{
		"zeros": blank(64), "both torn": torn, "of another size": whole[:199*512], "longer than it says": append(bytes.Clone(whole), make([]byte, 512)...),
		"no Gen": withRecord(whole, func(f *impl.Fsinfo) { f.Gen = 0 }), "a pointer at N": withRecord(whole, func(f *impl.Fsinfo) { f.Snaps[3] = 200 }),
		"a map of another size":   withRecord(whole, func(f *impl.Fsinfo) { f.Map.Size = 4 * 199 }),
		"a table of half inodes":  withRecord(whole, func(f *impl.Fsinfo) { f.Ino.Size += 64 }),
		"a pointer behind a tree": withRecord(whole, func(f *impl.Fsinfo) { f.Ino.Direct[11] = 5 }),
		"the map at the record":   withRecord(whole, func(f *impl.Fsinfo) { f.Map.Direct[0] = 1 }),
	} {
		notAudited(t, name, image, impl.ErrCorrupt, always(impl.ErrCorrupt))
	}
	// One copy that is torn is no fault.
	for _, at := range []int{100, 612} {
		image := bytes.Clone(whole)
		image[at] ^= 1
		finds(t, fmt.Sprint("byte ", at), image, found{})
	}
}

// A map that isn't right is the audit's fault and nobody else's; one that can't be read is
// plane 0's too.
func TestAuditsWithoutAMap(t *testing.T) {
	small, great := shelf(t, 200).settled(t), shelf(t, 1700).settled(t)
	finds(t, "great", great, found{})
	for name, image := range map[string][]byte{
		"word 0 is 0":             withWords(small, append([]int{0, 1}, make([]int, 198)...)),
		"word 1 is 0":             withWords(small, append([]int{1, 0}, make([]int, 198)...)),
		"word 0 is 3":             withBit(small, 1, 0),
		"word 1 has the last bit": withBit(small, 31, 1),
		"its first block a hole":  withRecord(small, func(f *impl.Fsinfo) { f.Map.Direct[0] = 0 }),
		"all of it a hole":        withRecord(small, func(f *impl.Fsinfo) { f.Map = impl.Root{Size: 800} }),
		"the table's block":       withRecord(small, func(f *impl.Fsinfo) { f.Map.Direct[0] = f.Ino.Direct[0] }),
		"Single at its first":     withRecord(great, func(f *impl.Fsinfo) { f.Map.Direct[0] = f.Map.Single }),
	} {
		notAudited(t, name, image, impl.ErrCorrupt, always(impl.OK))
	}
	f, _, _ := plainChoose(great)
	for _, word := range []int{1, 1700, 1701, 2047, 2048, 1 << 31, math.MaxUint32} {
		for _, at := range []int{0, 1} {
			image := bytes.Clone(great)
			putWord(image, f.Map.Single, at, word)
			notAudited(t, fmt.Sprint("word ", at, " of Single is ", word), image, impl.ErrCorrupt, only(0))
		}
		image := bytes.Clone(great)
		putWord(image, f.Map.Single, 2, word)
		finds(t, fmt.Sprint("a word behind the end is ", word), image, found{})
	}
	// A hole of the map says that all of 128 blocks are free: they are missing, if reached,
	// and the block that was there is leaked.
	hole := withRecord(small, func(f *impl.Fsinfo) { f.Map.Direct[1] = 0 })
	f, _, _ = plainChoose(small)
	finds(t, "a hole", hole, found{leaked: [][2]int{{0, f.Map.Direct[1]}}})
}

// Snapshots that can't be read are the fault of every plane, of plane 0 and of those that
// aren't in use too.
func TestAuditsWithoutSnapshots(t *testing.T) {
	m := shelf(t, 200)
	whole := m.settled(t)
	for _, plane := range []int{2, 5, 31} {
		at := 512 * m.info.Snaps[plane-1]
		for name, change := range map[string]func(image []byte){
			"zeros":      func(image []byte) { clear(image[at : at+512]) },
			"a bit":      func(image []byte) { image[at+300] ^= 4 },
			"its Plane":  func(image []byte) { image[at+8]++; seal(image[at : at+512]) },
			"its letter": func(image []byte) { image[at]++; seal(image[at : at+512]) },
			"the name of another": func(image []byte) {
				other := 512 * m.info.Snaps[map[int]int{2: 5, 5: 31, 31: 2}[plane]-1]
				copy(image[at+9:at+36], image[other+9:other+36])
				seal(image[at : at+512])
			},
		} {
			image := bytes.Clone(whole)
			change(image)
			notAudited(t, fmt.Sprint("plane ", plane, ": ", name), image, impl.ErrCorrupt, always(impl.ErrCorrupt))
			// Beside it a map that isn't right, and a table that can't be read.
			notAudited(t, fmt.Sprint("plane ", plane, ": ", name, ", no map"), withBit(image, 4, 0), impl.ErrCorrupt, always(impl.ErrCorrupt))
			lost := withRecord(image, func(f *impl.Fsinfo) { f.Ino.Direct[0] = 0; f.Ino.Direct[1] = 2 })
			notAudited(t, fmt.Sprint("plane ", plane, ": ", name, ", no table"), lost, impl.ErrCorrupt, always(impl.ErrCorrupt))
		}
	}
	for _, block := range []int{2, 3, 199, m.info.Map.Direct[0]} {
		image := withRecord(whole, func(f *impl.Fsinfo) { f.Snaps[9] = block })
		notAudited(t, fmt.Sprint("a snapshot at block ", block), image, impl.ErrCorrupt, always(impl.ErrCorrupt))
	}
	// Two planes that have one block: it is the Plane of one of them alone.
	image := withRecord(whole, func(f *impl.Fsinfo) { f.Snaps[2] = f.Snaps[1] })
	notAudited(t, "one block for two planes", image, impl.ErrCorrupt, always(impl.ErrCorrupt))
}

// resnapped is the image with the snapshot of a plane changed.
func resnapped(image []byte, plane int, change func(s *impl.Snap)) []byte {
	image = bytes.Clone(image)
	f, _, _ := plainChoose(image)
	at := 512 * f.Snaps[plane-1]
	s, code := impl.DecodeSnap(image[at : at+512])
	if code != impl.OK {
		panic("the test's own volume has no such snapshot")
	}
	change(&s)
	copy(image[at:], plainSnap(s))
	return image
}

// inodeIn are the bytes of an inode in a small table, in the image itself.
func inodeIn(image []byte, table impl.Root, number int) []byte {
	return image[512*table.Direct[number/4]+128*(number%4):][:128]
}

// A table that can't be read, in plane 0 and in a snapshot: only that plane is lost, but
// the audit is as a whole.
func TestAuditsWithoutATable(t *testing.T) {
	m := shelf(t, 200)
	whole := m.settled(t)
	finds(t, "whole", whole, found{})
	inode := plainTable([]impl.Inode{loose(impl.Root{})})
	spoilt := map[string]func(image []byte, r impl.Root){
		"inode 0 in use":    func(image []byte, r impl.Root) { copy(image[512*r.Direct[0]:], inode) },
		"a wrong Kind":      func(image []byte, r impl.Root) { image[512*r.Direct[0]+128] = 4 },
		"a byte that is 0":  func(image []byte, r impl.Root) { image[512*r.Direct[0]+128+1] = 1 },
		"the last free":     func(image []byte, r impl.Root) { clear(inodeIn(image, r, r.Size/128-1)) },
		"no Links":          func(image []byte, r impl.Root) { put16(image, 512*r.Direct[0]+128+2, 0) },
		"a pointer of 1":    func(image []byte, r impl.Root) { put32(image, 512*r.Direct[0]+128+48, 1) },
		"a pointer of 2048": func(image []byte, r impl.Root) { put32(image, 512*r.Direct[0]+128+48, 2048) },
	}
	own := func(plane int) impl.Root {
		list, _ := plainSnapshots(whole)
		return list[slices.IndexFunc(list, func(s impl.Snap) bool { return s.Plane == plane })].Root
	}
	for name, spoil := range spoilt {
		image := bytes.Clone(whole)
		spoil(image, m.info.Ino)
		notAudited(t, "the state: "+name, image, impl.ErrCorrupt, only(0, 2))
		for _, plane := range []int{5, 31} {
			image := bytes.Clone(whole)
			spoil(image, own(plane))
			notAudited(t, fmt.Sprint("plane ", plane, ": ", name), image, impl.ErrCorrupt, only(plane))
		}
	}
	for name, root := range map[string]impl.Root{
		"a table of holes":         {Size: 1024},
		"a table without its end":  {Size: 1024, Direct: [12]int{m.info.Ino.Direct[0]}},
		"a table of files' bytes":  directs(1024, m.info.Ino.Direct[0], 4),
		"one of too many inodes":   directs(1152, m.info.Ino.Direct[0], m.info.Ino.Direct[1]),
		"one of too few":           directs(896, m.info.Ino.Direct[0], m.info.Map.Direct[0]),
		"a table that is the map":  directs(1024, m.info.Map.Direct[0], m.info.Map.Direct[1]),
		"a table with a far block": {Size: 128 * 60, Direct: m.info.Ino.Direct, Single: 199},
	} {
		now := withRecord(whole, func(f *impl.Fsinfo) { f.Ino = root })
		notAudited(t, "the state: "+name, now, impl.ErrCorrupt, only(0))
		for _, plane := range []int{2, 5, 31} {
			image := resnapped(whole, plane, func(s *impl.Snap) { s.Root = root })
			notAudited(t, fmt.Sprint("plane ", plane, ": ", name), image, impl.ErrCorrupt, only(plane))
		}
	}
	// A snapshot's root may have pointers that the device has no block for.
	for _, far := range []int{200, 201, 2047} {
		image := resnapped(whole, 31, func(s *impl.Snap) { s.Root.Direct[1] = far })
		notAudited(t, fmt.Sprint("a snapshot's table at ", far), image, impl.ErrCorrupt, only(31))
	}
}

// The tree of an inode that can't be read, whichever inode it is, and wherever in the
// tree the pointer is wrong.
func TestAuditsWithoutAnInodesTree(t *testing.T) {
	t.Parallel()
	m := shelf(t, 200)
	whole := m.settled(t)
	own := map[int]impl.Root{0: m.info.Ino}
	list, _ := plainSnapshots(whole)
	for _, s := range list {
		own[s.Plane] = s.Root
	}
	for plane, table := range own {
		lost := []int{plane}
		if plane == 0 || plane == 2 {
			lost = []int{0, 2}
		}
		inodes, _ := plainInodes(whole, table)
		for number := 1; number < len(inodes); number++ {
			for _, far := range []int{200, 201, 2047} {
				image := bytes.Clone(whole)
				put32(inodeIn(image, table, number), 48, far)
				notAudited(t, fmt.Sprint("plane ", plane, ", inode ", number, " at ", far), image, impl.ErrCorrupt, only(lost...))
			}
		}
		single := inodes[7].Root.Single
		for _, word := range []int{1, 200, 2048, 1 << 31, math.MaxUint32} {
			for _, at := range []int{0, 1, 2, 127} {
				image := bytes.Clone(whole)
				putWord(image, single, at, word)
				name := fmt.Sprint("plane ", plane, ", word ", at, " of Single is ", word)
				if at < 2 {
					notAudited(t, name, image, impl.ErrCorrupt, only(lost...))
				} else {
					finds(t, name, image, found{})
				}
			}
		}
	}
	// Below Double: the words of the blocks that the file has, at both levels.
	m = tangle(t, []impl.Root{{Size: 512 * 269, Double: 60}}, []impl.Root{{Size: 512 * 141, Double: 61}}, nil, [3]int{60, 0, 62}, [3]int{61, 0, 62}, [3]int{62, 0, 10})
	image := m.settled(t)
	finds(t, "below Double", image, found{})
	for _, c := range []struct {
		block, word int
		lost        []int
	}{{60, 0, []int{0}}, {60, 1, []int{0}}, {61, 0, []int{6}}, {62, 0, []int{0, 6}}, {62, 127, []int{0}}} {
		for _, far := range []int{1, 64, math.MaxUint32} {
			hurt := bytes.Clone(image)
			putWord(hurt, c.block, c.word, far)
			notAudited(t, fmt.Sprint("word ", c.word, " of block ", c.block, " is ", far), hurt, impl.ErrCorrupt, only(c.lost...))
		}
	}
	for _, c := range [][2]int{{60, 2}, {60, 3}, {60, 127}, {61, 1}} {
		hurt := bytes.Clone(image)
		putWord(hurt, c[0], c[1], math.MaxUint32)
		finds(t, fmt.Sprint("word ", c[1], " of block ", c[0], " behind the end"), hurt, found{})
	}
}

// An image that no volume writes may have a right table of a wrong state, and more bytes
// than a state may have: that is no fault of its blocks.
func TestAuditsOfTablesThatAreNoStates(t *testing.T) {
	most := impl.Root{Size: impl.MaxFile}
	image := tangle(t, []impl.Root{directs(5, 10), most}, nil, nil).settled(t)
	if _, code := impl.LoadState(image); code != impl.ErrCorrupt {
		t.Fatalf("the test's own state is right")
	}
	finds(t, "entries are lacking", image, found{})
	m := newMason(400)
	list := []impl.Inode{{}, inodeWith(impl.NewState().Nodes[1], impl.Root{})}
	for range 999 {
		list = append(list, loose(most))
	}
	m.info.Ino = m.lay(plainTable(list))
	image = m.settled(t)
	finds(t, "999 files of holes", image, found{})
	// No root directory at all: inode 1 is free, or a file.
	for name, inodes := range map[string][]impl.Inode{"inode 1 is free": {{}, {}}, "inode 1 is a file": {{}, loose(directs(5, 50))}} {
		m := newMason(64)
		m.info.Ino = directs(256, m.block(plainTable(inodes)))
		image := m.settled(t)
		if _, code := audits(t, name, image); code != impl.OK {
			t.Errorf("%s: code %d", name, code)
		}
	}
}

// The greatest that an image can have: a thousand inodes of 512 blocks each in every one
// of 32 planes, all of them in the same few blocks. Every call ends.
func TestAuditsOfTheGreatestTangle(t *testing.T) {
	m := newMason(400)
	data := m.block([]byte("data"))
	leaf := m.block(plainWords(slices.Repeat([]int{data}, 128)))
	top := m.block(plainWords(slices.Repeat([]int{leaf}, 128)))
	full := impl.Root{Size: impl.MaxFile, Single: leaf, Double: top}
	for i := range full.Direct {
		full.Direct[i] = data
	}
	list := []impl.Inode{{}, inodeWith(impl.NewState().Nodes[1], impl.Root{})}
	for range 999 {
		list = append(list, loose(full))
	}
	m.info.Ino = m.lay(plainTable(list))
	words := emptyWords(400)
	for b := 2; b < m.next; b++ {
		words[b] = math.MaxUint32
	}
	for plane := 1; plane <= 31; plane++ {
		words[m.next] = 1 << plane
		m.snap(plane, fmt.Sprint("s", plane), 9, m.info.Ino)
	}
	for range 4 {
		words[m.next] = 1
		m.next++
	}
	m.info.Map = directs(1600, m.next-4, m.next-3, m.next-2, m.next-1)
	putRecords(m.image, m.info, m.info)
	image := withWords(m.image, words)
	tables := (len(list)*128 + 511) / 512
	r, code := impl.Audit(image)
	list0, listCode := impl.Reach(image, 31)
	if code != impl.OK || listCode != impl.OK || len(r.Leaked)+len(r.Missing) != 0 || len(r.Twice) != 3*32 {
		t.Fatalf("%s, codes %d and %d", tellReport(r), code, listCode)
	}
	for plane := range 32 {
		// In each plane: data, leaf and top; the pointer blocks of the table of 251 blocks.
		pointers := 3
		own := 4
		if plane > 0 {
			own = 1
		}
		if want := 3 + tables + pointers + own; r.Planes[plane] != want {
			t.Errorf("plane %d: %d blocks, want %d", plane, r.Planes[plane], want)
		}
		for k, b := range []int{data, leaf, top} {
			if r.Twice[3*plane+k] != 2048*plane+b {
				t.Errorf("plane %d: %v", plane, r.Twice[3*plane:3*plane+3])
			}
		}
	}
	// Each file has 512 data blocks, Single, three below Double, and Double.
	if want := 999*(512+1+3+1) + tables + 3 + 1; len(list0) != want || !slices.IsSorted(list0) {
		t.Errorf("Reach: %d blocks, want %d", len(list0), want)
	}
}

// Hurt volumes are audited as the rule says, whatever is wrong with them.
func TestAuditsOfHurtVolumes(t *testing.T) {
	t.Parallel()
	random := rand.New(rand.NewSource(202))
	codes, told := map[int]int{}, [3]int{}
	for round := range 1200 {
		m := newMason([]int{64, 65, 100, 200, 200, 300, 1600}[random.Intn(7)])
		p := example()
		if random.Intn(2) == 0 {
			p.file(1, "single", fileOf(14))
		}
		root := m.state(p.State)
		m.info.Ino = root
		for plane := 1; plane < 4; plane++ {
			m.snap(plane*7, fmt.Sprint("s", plane), 8+plane, root)
		}
		image := m.settled(t)
		for range random.Intn(3) {
			words, code := plainMapWords(image)
			if code != impl.OK {
				break
			}
			for range 1 + random.Intn(8) {
				words[2+random.Intn(min(len(words)-2, 50))] ^= []int{1, 2, 1 << 31, 1 << 7, 1 << 14, 1<<21 | 1, math.MaxUint32}[random.Intn(7)]
			}
			image = withWords(image, words)
		}
		for range random.Intn(3) {
			// An inode gets a block that is another's, most often.
			put32(inodeIn(image, root, 1+random.Intn(root.Size/128-1)), 48, 2+random.Intn(m.next-2))
		}
		for range random.Intn(5) {
			hurt(random, image)
		}
		r, code := audits(t, fmt.Sprint("round ", round), image)
		codes[code]++
		for k, list := range [][]int{r.Leaked, r.Missing, r.Twice} {
			told[k] += min(1, len(list))
		}
		if t.Failed() {
			return
		}
	}
	if codes[impl.OK] < 300 || codes[impl.ErrCorrupt] < 200 || told[0] < 200 || told[1] < 200 || told[2] < 10 {
		t.Errorf("codes %v, Leaked, Missing and Twice in %v", codes, told)
	}
}

// Images of any bytes whatever: nothing panics, every call ends.
func TestAuditsOfAnyBytes(t *testing.T) {
	random := rand.New(rand.NewSource(203))
	for round := range 200 {
		image := make([]byte, 512*(62+random.Intn(6))+random.Intn(2))
		random.Read(image)
		if random.Intn(2) == 0 && len(image) >= 64*512 && len(image)%512 == 0 {
			copy(image, plainFormat(len(image)/512, 0, 0)[:1024])
		}
		audits(t, fmt.Sprint("round ", round), image)
	}
}
