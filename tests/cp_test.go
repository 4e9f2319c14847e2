package tests

import (
	"bytes"
	"fmt"
	"math"
	"slices"
	"strings"
	"testing"

	"loop.example/s02533/impl"
)

// becomes is the state behind an operation of user 0 that must be done.
func becomes(t *testing.T, s impl.State, op impl.Op) impl.State {
	t.Helper()
	next, ans := impl.ApplyOp(s, op)
	if ans.Code != impl.OK {
		t.Fatalf("%s: code %d", tellOp(op), ans.Code)
	}
	return next
}

func create(name string) impl.Act   { return impl.Act{Kind: impl.ActCreate, Name: name} }
func toDelete(name string) impl.Act { return impl.Act{Kind: impl.ActDelete, Name: name} }
func restore(name string) impl.Act  { return impl.Act{Kind: impl.ActRestore, Name: name} }

// wordsAre asks for the words of blocks 2 and on.
func wordsAre(t *testing.T, name string, image []byte, want ...int) {
	t.Helper()
	words, code := impl.MapWords(image)
	if code != impl.OK || !slices.Equal(words[2:2+len(want)], want) {
		t.Errorf("%s: words %v, code %d, want %v", name, words[2:2+len(want)], code, want)
	}
	for b := 2 + len(want); b < len(words); b++ {
		if words[b] != 0 {
			t.Errorf("%s: block %d has the word %d", name, b, words[b])
		}
	}
}

// stepsTo plans, asks which blocks are put, and tells the image behind it.
func stepsTo(t *testing.T, name string, image []byte, s impl.State, ops int, act impl.Act, puts ...int) []byte {
	t.Helper()
	out, _ := impl.CpPlan(image, s, ops, act)
	if !slices.Equal(blocksPut(out.Puts), puts) {
		t.Errorf("%s: puts %v, want %v", name, blocksPut(out.Puts), puts)
	}
	behind, code := keepsPromise(t, name, image, s, ops, act)
	if code != impl.OK {
		t.Fatalf("%s: code %d", name, code)
	}
	return behind
}

// recordIs asks for what the record says beside its map.
func recordIs(t *testing.T, name string, image []byte, want impl.Fsinfo) {
	t.Helper()
	f, _, code := impl.ChooseFsinfo(image)
	want.Map = f.Map
	if code != impl.OK || f != want {
		t.Errorf("%s: the record is %v, want %v, code %d", name, f, want, code)
	}
}

func TestWorkedExamplesOfConsistencyPoints(t *testing.T) {
	image, _ := impl.Format(64, 5, 8192)
	s := becomes(t, impl.NewState(), impl.Op{Kind: impl.OpCreate, Path: "/f"})
	table := func(size, b int) impl.Root { return impl.Root{Size: size, Direct: [12]int{b}} }
	plain := stepsTo(t, "the empty file", image, s, 1, impl.Act{}, 4, 5, 6)
	recordIs(t, "the empty file", plain, impl.Fsinfo{Gen: 2, Blocks: 64, Cursor: 7, Clock: 2, Ops: 1, Every: 5, Log: 8192, Ino: table(384, 5)})
	wordsAre(t, "the empty file", plain, 0, 0, 1, 1, 1)
	one := impl.Fsinfo{Gen: 2, Blocks: 64, Cursor: 8, Clock: 2, Ops: 1, Every: 5, Log: 8192, Ino: table(384, 5), Snaps: [31]int{6}}
	image = stepsTo(t, "create", image, s, 1, create("one"), 4, 5, 6, 7)
	recordIs(t, "create", image, one)
	wordsAre(t, "create", image, 0, 0, 3, 3, 2, 1)
	list, code := impl.Snapshots(image)
	if want := (impl.Snap{Plane: 1, Name: "one", Gen: 2, Clock: 2, Root: table(384, 5)}); code != impl.OK || len(list) != 1 || list[0] != want {
		t.Errorf("create: %v, code %d", list, code)
	}
	gone := becomes(t, s, impl.Op{Kind: impl.OpUnlink, Path: "/f"})
	image = stepsTo(t, "unlink", image, gone, 2, impl.Act{}, 8, 9)
	one.Gen, one.Cursor, one.Clock, one.Ops, one.Ino = 3, 10, 3, 2, table(256, 8)
	recordIs(t, "unlink", image, one)
	wordsAre(t, "unlink", image, 0, 0, 2, 2, 2, 0, 1, 1)
	back, _ := impl.LoadSnap(image, "one")
	back.Clock = 4
	image = stepsTo(t, "restore", image, back, 3, restore("one"), 10)
	one.Gen, one.Cursor, one.Clock, one.Ops, one.Ino = 4, 11, 4, 3, table(384, 5)
	recordIs(t, "restore", image, one)
	wordsAre(t, "restore", image, 0, 0, 3, 3, 2, 0, 0, 0, 1)
	// Deleted while the state has the same blocks, and behind another unlink.
	both := stepsTo(t, "delete", image, back, 4, toDelete("one"), 11)
	one.Gen, one.Cursor, one.Ops, one.Snaps = 5, 12, 4, [31]int{}
	recordIs(t, "delete", both, one)
	wordsAre(t, "delete", both, 0, 0, 1, 1, 0, 0, 0, 0, 0, 1)
	gone.Clock = 5
	image = stepsTo(t, "unlink and delete", image, gone, 4, toDelete("one"), 11, 12)
	wordsAre(t, "unlink and delete", image, 0, 0, 0, 0, 0, 0, 0, 0, 0, 1, 1)
}

// A plan that changes nothing writes nothing but the record.
func TestPlansThatNeedNoBlock(t *testing.T) {
	for _, n := range []int{64, 200, 1600, 2048} {
		image := volumeOf(n, example().State)
		f, _, _ := impl.ChooseFsinfo(image)
		// The map of a volume that was made by hand doesn't tell of itself yet.
		image = stepsWhatever(t, image, example().State, f.Ops)
		f, _, _ = impl.ChooseFsinfo(image)
		name := fmt.Sprint("nothing, ", n, " blocks")
		behind := stepsTo(t, name, image, example().State, f.Ops, impl.Act{})
		f.Gen++
		recordIs(t, name, behind, f)
		if !bytes.Equal(behind[1024:], image[1024:]) {
			t.Errorf("%s: a block has been written", name)
		}
		later := example().State
		later.Clock = 4711
		behind = stepsTo(t, name+", another Clock", image, later, f.Ops+3, impl.Act{})
		f.Clock, f.Ops = 4711, f.Ops+3
		recordIs(t, name+", another Clock", behind, f)
		// A snapshot and its end: its block and the map's, and then the map's alone.
		with, code := keepsPromise(t, name+", create", image, example().State, f.Ops, create("one"))
		if code != impl.OK {
			t.Fatalf("%s, create: code %d", name, code)
		}
		out, _ := plans(t, name+", delete", with, example().State, f.Ops, toDelete("one"))
		now, _, _ := impl.ChooseFsinfo(with)
		without, _ := keepsPromise(t, name+", delete", with, example().State, f.Ops, toDelete("one"))
		if own := newMapBlocks(with, now, without, out.Info); own == 0 || own != len(out.Puts) {
			t.Errorf("%s, delete: %d puts, %d of the map", name, len(out.Puts), own)
		}
	}
}

// stepsWhatever carries a plan out that need not keep the promise: of an image that
// was made by hand.
func stepsWhatever(t *testing.T, image []byte, s impl.State, ops int) []byte {
	t.Helper()
	out, code := plans(t, "by hand", image, s, ops, impl.Act{})
	if code != impl.OK {
		t.Fatalf("by hand: code %d", code)
	}
	return switched(t, image, out)
}

func TestPlansOfOps(t *testing.T) {
	image := volumeOf(64, example().State) // Ops 3
	for ops, want := range map[int]int{
		math.MinInt: impl.ErrRange, -1: impl.ErrRange, 0: impl.ErrRange, 2: impl.ErrRange, 3: impl.OK, 4: impl.OK, 1000: impl.OK, impl.MaxClock - 1: impl.OK,
		impl.MaxClock: impl.OK, impl.MaxClock + 1: impl.ErrRange, 1 << 62: impl.ErrRange, math.MaxInt: impl.ErrRange,
	} {
		for _, act := range []impl.Act{{}, create("one")} {
			out, code := plans(t, "ops", image, example().State, ops, act)
			if got, gotCode := impl.CpPlan(image, example().State, ops, act); gotCode != want || code != want || want == impl.OK && (got.Info.Ops != ops || !samePlan(got, out)) {
				t.Errorf("ops %d: Ops %d, code %d, want %d", ops, got.Info.Ops, gotCode, want)
			}
		}
		// Behind it everything else that could be refused.
		if want != impl.OK {
			planRefused(t, "ops and an unknown kind", image, example().State, ops, impl.Act{Kind: 9}, want)
			planRefused(t, "ops and a bad name", image, example().State, ops, create(""), want)
			planRefused(t, "ops and nothing to delete", image, example().State, ops, toDelete("one"), want)
		}
	}
	most := withRecord(image, func(f *impl.Fsinfo) { f.Ops = impl.MaxClock })
	planRefused(t, "Ops at MaxClock, one less", most, example().State, impl.MaxClock-1, impl.Act{}, impl.ErrRange)
	if _, code := plans(t, "Ops at MaxClock", most, example().State, impl.MaxClock, impl.Act{}); code != impl.OK {
		t.Errorf("Ops at MaxClock: code %d", code)
	}
}

func TestPlansOfTheGreatestGen(t *testing.T) {
	image := volumeOf(64, example().State)
	for gen, want := range map[int]int{1: impl.OK, 2: impl.OK, impl.MaxClock - 2: impl.OK, impl.MaxClock - 1: impl.OK, impl.MaxClock: impl.ErrRange} {
		image := withRecord(image, func(f *impl.Fsinfo) { f.Gen = gen })
		for _, act := range []impl.Act{{}, create("one")} {
			out, code := plans(t, "Gen", image, example().State, 3, act)
			if code != want || want == impl.OK && out.Info.Gen != gen+1 {
				t.Errorf("Gen %d: Gen %d, code %d, want %d", gen, out.Info.Gen, code, want)
			}
		}
		if want != impl.OK {
			planRefused(t, "Gen and an unknown kind", image, example().State, 3, impl.Act{Kind: -1}, want)
			planRefused(t, "Gen and a bad name", image, example().State, 3, create("."), want)
			planRefused(t, "Gen and nothing to restore", image, example().State, 3, restore("."), want)
		}
	}
	// Of two copies the one with the greater Gen is where it starts.
	f, _, _ := impl.ChooseFsinfo(image)
	second := f
	second.Gen, second.Cursor, second.Ops = f.Gen+1, 40, 77
	putRecords(image, f, second)
	out, code := plans(t, "block 1", image, manyFiles(2).State, 77, impl.Act{})
	if code != impl.OK || out.Info.Gen != f.Gen+2 || out.Puts[0].Block != 40 {
		t.Errorf("block 1: %s, code %d", tellPlan(out), code)
	}
	planRefused(t, "block 1, the Ops of block 0", image, example().State, 76, impl.Act{}, impl.ErrRange)
}

func TestPlansOfUnknownKinds(t *testing.T) {
	image := snapped(64, []int{1}, []string{"one"}).done()
	for _, kind := range []int{math.MinInt, -4, -3, -2, -1, 4, 5, 100, 256, 257, 1 << 32, 1<<32 + 1, 1<<32 + 3, math.MaxInt} {
		for _, name := range []string{"", "one", "two", "/"} {
			planRefused(t, "an unknown kind", image, example().State, 3, impl.Act{Kind: kind, Name: name}, impl.ErrKind)
		}
	}
	// Without an act the name doesn't matter.
	for _, name := range []string{"", "one", "two", "/", strings.Repeat("x", 100)} {
		if _, code := plans(t, "no act", image, example().State, 3, impl.Act{Name: name}); code != impl.OK {
			t.Errorf("no act, name %q: code %d", name, code)
		}
	}
}

// allPlanes are names for all planes.
func allPlanes() ([]int, []string) {
	planes, names := []int{}, []string{}
	for plane := 1; plane <= 31; plane++ {
		planes, names = append(planes, plane), append(names, fmt.Sprint("s", plane))
	}
	return planes, names
}

func TestNamesOfNewSnapshots(t *testing.T) {
	some := snapped(64, []int{1, 4}, []string{"one", "four"}).done()
	planes, names := allPlanes()
	full := snapped(100, planes, names).done()
	for _, c := range []struct {
		name       string
		code, many int
	}{
		{"", impl.ErrInval, impl.ErrInval}, {".", impl.ErrInval, impl.ErrInval}, {"..", impl.ErrInval, impl.ErrInval},
		{"a/b", impl.ErrInval, impl.ErrInval}, {"/", impl.ErrInval, impl.ErrInval}, {"a\x00", impl.ErrInval, impl.ErrInval}, {"\x00", impl.ErrInval, impl.ErrInval},
		{strings.Repeat("x", 27), impl.ErrNameLong, impl.ErrNameLong}, {strings.Repeat("/", 27), impl.ErrNameLong, impl.ErrNameLong}, {strings.Repeat("x", 100000), impl.ErrNameLong, impl.ErrNameLong},
		{"one", impl.ErrExist, impl.ErrSnaps}, {"four", impl.ErrExist, impl.ErrSnaps}, {"s1", impl.OK, impl.ErrExist}, {"s31", impl.OK, impl.ErrExist},
		{strings.Repeat("x", 26), impl.OK, impl.ErrSnaps}, {"On", impl.OK, impl.ErrSnaps}, {"ONE", impl.OK, impl.ErrSnaps}, {"onee", impl.OK, impl.ErrSnaps}, {"...", impl.OK, impl.ErrSnaps},
		{".snapshot", impl.OK, impl.ErrSnaps}, {"\xff\xfe \n", impl.OK, impl.ErrSnaps},
	} {
		for _, s := range []impl.State{example().State, bigState(400)} {
			// The great state has no room: that is told behind all of these.
			code := c.code
			if code == impl.OK && len(s.Nodes) > 100 {
				code = impl.ErrNoSpace
			}
			if _, got := plans(t, "create", some, s, 3, create(c.name)); got != code {
				t.Errorf("create of %.40q: code %d, want %d", c.name, got, code)
			}
			planRefused(t, "create, all planes in use", full, s, 3, create(c.name), c.many)
		}
	}
	out, code := plans(t, "create", some, example().State, 3, create(strings.Repeat("x", 26)))
	if list, _ := impl.Snapshots(switched(t, some, out)); code != impl.OK || len(list) != 3 || list[1].Name != strings.Repeat("x", 26) || list[1].Plane != 2 {
		t.Errorf("create of the longest name: %v, code %d", list, code)
	}
}

// bigState has more files than a small volume has room for.
func bigState(many int) impl.State { return manyFiles(many).State }

// The least plane that isn't in use, whatever bits the map has there.
func TestWhichPlaneIsTaken(t *testing.T) {
	planes, names := allPlanes()
	for gap := 1; gap <= 31; gap++ {
		for _, second := range []int{0, 31, 17} {
			used, called := []int{}, []string{}
			for k, plane := range planes {
				if plane != gap && plane != second {
					used, called = append(used, plane), append(called, names[k])
				}
			}
			m := snapped(64, used, called)
			m.words[60], m.words[61] = 1<<gap, 1<<gap|1<<5
			image := m.done()
			out, code := plans(t, "a gap", image, example().State, 3, create("new"))
			want := gap
			if second > 0 {
				want = min(gap, second)
			}
			if code != impl.OK || out.Info.Snaps[want-1] == 0 {
				t.Fatalf("planes but %d and %d: %s, code %d", gap, second, tellPlan(out), code)
			}
			behind := switched(t, image, out)
			words, _ := impl.MapWords(behind)
			list, code := impl.Snapshots(behind)
			k := slices.IndexFunc(list, func(s impl.Snap) bool { return s.Name == "new" })
			if code != impl.OK || k < 0 || list[k].Plane != want || list[k].Gen != 6 || list[k].Clock != 9 || list[k].Root != out.Info.Ino {
				t.Errorf("planes but %d and %d: %v, code %d", gap, second, list, code)
			}
			set := map[int]bool{out.Info.Snaps[want-1]: true}
			inodes, _ := plainInodes(behind, out.Info.Ino)
			reachedIn(behind, set, rootsOf(out.Info.Ino, inodes)...)
			for b, w := range words {
				if b >= 2 && (w>>want&1 == 1) != set[b] {
					t.Errorf("planes but %d and %d: block %d has the word %b", gap, second, b, w)
				}
			}
			if w := words[out.Info.Snaps[want-1]]; w != 1<<want {
				t.Errorf("the snapshot's block has the word %b", w)
			}
		}
	}
}

func TestSnapshotsThatAreNotThere(t *testing.T) {
	image := snapped(64, []int{3, 31}, []string{"three", "last"}).done()
	none, _ := impl.Format(64, 0, 0)
	for _, name := range []string{"", ".", "..", "/", "a/b", "a\x00", "thre", "threee", "Three", "3", "one", ".snapshot", strings.Repeat("x", 27), strings.Repeat("x", 5000)} {
		for _, s := range []impl.State{example().State, bigState(400)} {
			planRefused(t, "delete", image, s, 3, toDelete(name), impl.ErrNoEnt)
			planRefused(t, "restore", image, s, 3, restore(name), impl.ErrNoEnt)
			planRefused(t, "delete of none", none, s, 3, toDelete(name), impl.ErrNoEnt)
			planRefused(t, "restore of none", none, s, 3, restore(name), impl.ErrNoEnt)
		}
	}
	for _, act := range []impl.Act{toDelete("three"), toDelete("last"), restore("three"), restore("last")} {
		if _, code := plans(t, "there", image, example().State, 3, act); code != impl.OK {
			t.Errorf("%v: code %d", act, code)
		}
		planRefused(t, "there, no room", image, bigState(400), 3, act, impl.ErrNoSpace)
	}
	// Only the plane of the one that is deleted goes, where others have the same blocks.
	m := snapped(64, []int{3, 31}, []string{"three", "last"})
	for _, b := range []int{m.info.Ino.Direct[0], 40} {
		m.words[b] = 1<<3 | 1<<31 | 1<<7
	}
	image = m.done()
	out, _ := plans(t, "delete", image, example().State, 3, toDelete("last"))
	words, _ := impl.MapWords(switched(t, image, out))
	if b := m.info.Ino.Direct[0]; words[b] != 1<<3|1<<7|1 || words[40] != 1<<3|1<<7 || out.Info.Snaps[2] == 0 || out.Info.Snaps[30] != 0 {
		t.Errorf("delete of one of two: words %b and %b, %v", words[b], words[40], out.Info.Snaps)
	}
}

// What the image, the map, the snapshots and the state are refused for, with all that
// is named behind standing too.
func TestOrderOfFaultsOfPlans(t *testing.T) {
	right, wrong := example().State, impl.State{Clock: 1}
	whole := snapped(64, []int{2}, []string{"two"}).done()
	lost := func(change func(f *impl.Fsinfo)) []byte { return withRecord(whole, change) }
	images := []struct {
		name  string
		image []byte
		code  int
	}{
		{"no bytes", nil, impl.ErrInval},
		{"a byte too few", whole[:len(whole)-1], impl.ErrInval},
		{"63 blocks", whole[:63*512], impl.ErrInval},
		{"2049 blocks", make([]byte, 2049*512), impl.ErrInval},
		{"zeros", make([]byte, 64*512), impl.ErrCorrupt},
		{"a record of other blocks", append(bytes.Clone(whole), make([]byte, 512)...), impl.ErrCorrupt},
		{"no map", lost(func(f *impl.Fsinfo) { f.Map = impl.Root{Size: 256} }), impl.ErrCorrupt},
		{"a wrong map", lost(func(f *impl.Fsinfo) { f.Map.Direct[0] = f.Ino.Direct[0] }), impl.ErrCorrupt},
		{"no snapshot", lost(func(f *impl.Fsinfo) { f.Snaps[4] = 60 }), impl.ErrCorrupt},
		{"a snapshot twice", lost(func(f *impl.Fsinfo) { f.Snaps[4] = f.Snaps[1] }), impl.ErrCorrupt},
	}
	acts := []impl.Act{{}, {Kind: 4}, {Kind: -1}, create("two"), create("new"), create(""), toDelete("two"), toDelete("no"), restore("two"), restore("no")}
	for _, c := range images {
		for _, s := range []impl.State{right, wrong, {}} {
			for _, ops := range []int{3, 2, -1, math.MaxInt} {
				for _, act := range acts {
					planRefused(t, c.name, c.image, s, ops, act, c.code)
				}
			}
		}
	}
	link := example().State
	link.Nodes[3].Links++
	old := example().State
	old.Clock = 1
	none := example().State
	none.Nodes = append(none.Nodes, impl.Node{})
	snap := newPlanter()
	snap.file(1, ".snapshot", "")
	for name, s := range map[string]impl.State{"nothing": {}, "two nodes short": wrong, "a link too many": link, "an old Clock": old, "a free node at the end": none, ".snapshot": snap.State} {
		for _, ops := range []int{3, 2, -1, math.MaxInt} {
			for _, act := range acts {
				planRefused(t, "a state that isn't right: "+name, whole, s, ops, act, impl.ErrCorrupt)
			}
		}
	}
	// The Clock of the state may be less than the record's.
	early := impl.NewState()
	if out, code := plans(t, "an early Clock", whole, early, 3, impl.Act{}); code != impl.OK || out.Info.Clock != 1 {
		t.Errorf("an early Clock: %d, code %d", out.Info.Clock, code)
	}
}

// torn is a volume of a snapshot "old" and a state "now", each with a file of 14
// blocks as their last node; spoil may change the table of either ahead of it.
func torn(spoil func(m *mason, which string, list []impl.Inode)) (*mason, impl.State) {
	m := newMason(100)
	p := example()
	p.file(1, "single", fileOf(14))
	lay := func(which string) impl.Root {
		list := m.inodes(p.State)
		spoil(m, which, list)
		return m.lay(plainTable(list))
	}
	old := lay("old")
	m.info.Ino = lay("now")
	m.snap(1, "old", 9, old)
	return m, p.State
}

func TestReferencesThatCannotBeRead(t *testing.T) {
	bad := 99
	spoilings := map[string]func(m *mason, list []impl.Inode){
		"a pointer of Single":       func(m *mason, list []impl.Inode) { putWord(m.image, list[7].Root.Single, 1, 100) },
		"pointer 1 in Single":       func(m *mason, list []impl.Inode) { putWord(m.image, list[7].Root.Single, 0, 1) },
		"Single itself":             func(m *mason, list []impl.Inode) { list[7].Root.Single = 100 },
		"a Direct":                  func(m *mason, list []impl.Inode) { list[7].Root.Direct[11] = 2047 },
		"the root's Direct":         func(m *mason, list []impl.Inode) { list[1].Root.Direct[0] = 100 },
		"an inode that isn't right": func(m *mason, list []impl.Inode) { list[7].Links = 1001 },
		"inode 0":                   func(m *mason, list []impl.Inode) { list[0] = list[1] },
		"a free inode at the end":   func(m *mason, list []impl.Inode) { list[7] = impl.Inode{} },
	}
	for name, spoil := range spoilings {
		for _, which := range []string{"old", "now"} {
			m, s := torn(func(m *mason, laid string, list []impl.Inode) {
				if laid == which {
					spoil(m, list)
				}
			})
			whole := m.done()
			for b := 2; b < 100; b++ {
				m.words[b] = 1
			}
			full := m.done()
			for _, image := range [][]byte{whole, full} {
				for _, act := range []impl.Act{{}, create("new"), toDelete("old"), restore("old")} {
					what := fmt.Sprint(name, " of ", which)
					if (act.Kind == impl.ActRestore) == (which == "old") {
						planRefused(t, what, image, s, 3, act, impl.ErrCorrupt)
						// Short of blocks at the first node, wrong at the last one.
						more := copyOf(s)
						more.Nodes[1].Mode, more.Nodes[3].Data = 7, []byte(fileOf(110))
						planRefused(t, what+", no room", image, more, 3, act, impl.ErrCorrupt)
					} else if _, code := plans(t, what, image, s, 3, act); code == impl.ErrCorrupt {
						t.Errorf("%s: the other one is refused", what)
					}
				}
			}
		}
	}
	// The tables themselves.
	for name, r := range map[string]impl.Root{"a block that isn't there": {Size: 512, Direct: [12]int{100}}, "not a table": {Size: 512, Direct: [12]int{3}}, "zeros": {Size: 384}, "two free inodes": {Size: 256}} {
		m, s := torn(func(*mason, string, []impl.Inode) {})
		m.snap(2, "torn", 9, r)
		image := m.done()
		want := impl.ErrCorrupt
		if name == "two free inodes" {
			want = impl.OK
		}
		if _, code := plans(t, name, image, s, 3, restore("torn")); code != want {
			t.Errorf("restore, %s: code %d", name, code)
		}
		if _, code := plans(t, name, image, s, 3, toDelete("torn")); code != impl.OK {
			t.Errorf("delete, %s: code %d", name, code)
		}
		if r.Direct[0] >= bad {
			continue
		}
		image = withRecord(image, func(f *impl.Fsinfo) { f.Ino = r })
		for _, act := range []impl.Act{{}, create("new"), toDelete("old")} {
			if _, code := plans(t, name, image, s, 3, act); code != want {
				t.Errorf("act %v, %s: code %d", act, name, code)
			}
		}
	}
	// An inode that no node is written against isn't looked at.
	m, s := torn(func(m *mason, which string, list []impl.Inode) { list[7].Root.Single = 100 })
	image := m.done()
	for _, act := range []impl.Act{{}, create("new"), toDelete("old"), restore("old")} {
		planRefused(t, "looked at", image, s, 3, act, impl.ErrCorrupt)
		if _, code := plans(t, "not looked at", image, example().State, 3, act); code != impl.OK {
			t.Errorf("not looked at: code %d", code)
		}
	}
	// All that is asked ahead of it is told first.
	planes, names := allPlanes()
	for k, plane := range planes[1:] {
		m.snap(plane, names[1+k], 9, m.info.Ino)
	}
	full := m.done()
	planRefused(t, "ahead", image, impl.State{}, 2, impl.Act{Kind: 4}, impl.ErrCorrupt)
	planRefused(t, "ahead", image, s, 2, impl.Act{Kind: 4}, impl.ErrRange)
	planRefused(t, "ahead", image, s, 3, impl.Act{Kind: 4}, impl.ErrKind)
	planRefused(t, "ahead", image, s, 3, create(""), impl.ErrInval)
	planRefused(t, "ahead", image, s, 3, create(strings.Repeat("x", 27)), impl.ErrNameLong)
	planRefused(t, "ahead", image, s, 3, create("old"), impl.ErrExist)
	planRefused(t, "ahead", full, s, 3, create("old"), impl.ErrExist)
	planRefused(t, "ahead", full, s, 3, create("new"), impl.ErrSnaps)
	planRefused(t, "ahead", image, s, 3, toDelete("new"), impl.ErrNoEnt)
	planRefused(t, "ahead", image, s, 3, restore("new"), impl.ErrNoEnt)
}

// leaveFree leaves just so many blocks of a volume free, from block from on, and makes the
// cursor the first of them.
func leaveFree(image []byte, from, many int) []byte {
	f, _, _ := plainChoose(image)
	words, _ := plainMapWords(image)
	for b := 2; b < len(words); b++ {
		if words[b] == 0 && (b < from || b >= from+many) {
			words[b] = 1 << 30
		}
	}
	return mapped(withRecord(image, func(f *impl.Fsinfo) { f.Cursor = from }), f, words)
}

// mapped writes words over the map where it lies; its holes stay.
func mapped(image []byte, f impl.Fsinfo, words []int) []byte {
	image = bytes.Clone(image)
	for i := range (len(words) + 127) / 128 {
		if b := plainOpen(image, f.Map).data[i]; b != 0 {
			copy(image[512*b:], plainWords(words[128*i:min(128*i+128, len(words))]))
		}
	}
	return image
}

func TestPlansThatAreShortByOne(t *testing.T) {
	image, _ := impl.Format(64, 0, 0)
	image = stepsTo(t, "a snapshot", image, example().State, 0, create("one"), 4, 5, 6, 7, 8, 9, 10, 11, 12, 13)
	// Fresh are the root's block, the file's, and both of the table.
	small, large := example(), example()
	small.file(1, "new", "n")
	large.file(1, "new", fileOf(14))
	for _, c := range []struct {
		name string
		s    impl.State
		act  impl.Act
		need int
	}{
		{"nothing", example().State, impl.Act{}, 0},
		{"create alone", example().State, create("two"), 1 + 1},
		{"delete alone", example().State, toDelete("one"), 1},
		{"restore alone", example().State, restore("one"), 0},
		{"four", small.State, impl.Act{}, 4 + 1},
		{"four and create", small.State, create("two"), 4 + 1 + 1},
		{"four and delete", small.State, toDelete("one"), 4 + 1},
		{"four and restore", small.State, restore("one"), 4 + 1},
		{"eighteen", large.State, impl.Act{}, 18 + 1},
		{"eighteen and create", large.State, create("two"), 18 + 1 + 1},
		{"eighteen and delete", large.State, toDelete("one"), 18 + 1},
	} {
		for many := range c.need + 3 {
			image := leaveFree(image, 20, many)
			out, code := plans(t, c.name, image, c.s, 5, c.act)
			want := impl.OK
			if many < c.need {
				want = impl.ErrNoSpace
			}
			if code != want || want == impl.OK && len(out.Puts) != c.need {
				t.Fatalf("%s: %d free: %s, code %d, want %d", c.name, many, tellPlan(out), code, want)
			}
			if want == impl.OK && c.need > 0 && (out.Puts[0].Block != 20 || out.Puts[c.need-1].Block != 19+c.need || out.Info.Map.Direct[0] != 19+c.need || out.Info.Cursor != 20+c.need) {
				t.Errorf("%s: %d free: %s", c.name, many, tellPlan(out))
			}
			if room, _ := impl.Room(image, c.s); code == impl.ErrNoSpace && room >= 1 {
				t.Errorf("%s: %d free: refused, but there is room: %d", c.name, many, room)
			}
		}
	}
}

// A map of many blocks takes as many of them as it must.
func TestMapsThatAreShortByOne(t *testing.T) {
	for _, n := range []int{129, 300, 1536, 1537, 2048} {
		image, _ := impl.Format(n, 0, 0)
		p := newPlanter()
		p.file(1, "new", "n")
		least := 0
		for many := range 3 + impl.MapReserve(n) + 3 {
			image := leaveFree(image, n-40, many)
			_, code := plans(t, fmt.Sprint(n, " blocks"), image, p.State, 5, impl.Act{})
			if code == impl.ErrNoSpace {
				least = many + 1
			}
			if code != impl.OK && code != impl.ErrNoSpace || code == impl.OK && many < least {
				t.Errorf("%d blocks, %d free: code %d", n, many, code)
			}
		}
		if least < 4 || least > 3+impl.MapReserve(n) {
			t.Errorf("%d blocks: %d are needed", n, least)
		}
	}
}

// What is given up by this consistency point isn't free for it.
func TestWhatIsGivenUpIsNotYetFree(t *testing.T) {
	image, _ := impl.Format(64, 0, 0)
	p := newPlanter()
	p.file(1, "big", fileOf(24))
	image, code := keepsPromise(t, "a big file", image, p.State, 1, impl.Act{})
	if code != impl.OK {
		t.Fatalf("a big file: code %d", code)
	}
	other := copyOf(p.State)
	for k := range 24 {
		other.Nodes[2].Data[512*k] = 'B'
	}
	// 60 less 28 in use: 32 are free; the other bytes need 24, Single, the table, the map.
	behind, code := keepsPromise(t, "other bytes", image, other, 2, impl.Act{})
	if code != impl.OK {
		t.Fatalf("other bytes: code %d", code)
	}
	words, _ := impl.MapWords(behind)
	counted, _ := impl.MapCount(words)
	if counted.Used != 2+1+1+25+1 {
		t.Errorf("other bytes: %d in use", counted.Used)
	}
	// A third file that needs more than is free now, though less than behind it.
	third := copyOf(p.State)
	third.Nodes[2].Data = []byte(strings.ReplaceAll(fileOf(33), "b", "c"))
	planRefused(t, "too many at a time", image, third, 3, impl.Act{}, impl.ErrNoSpace)
	image, code = keepsPromise(t, "nothing", image, impl.NewState(), 3, impl.Act{})
	if code != impl.OK {
		t.Fatalf("nothing: code %d", code)
	}
	if _, code = keepsPromise(t, "now there is room", image, third, 4, impl.Act{}); code != impl.OK {
		t.Errorf("now there is room: code %d", code)
	}
}

func TestBlocksGoRoundTheEnd(t *testing.T) {
	p := newPlanter()
	p.file(1, "new", fileOf(3))
	for _, c := range []struct {
		cursor int
		puts   []int
		next   int
	}{
		// In this order: the root's block, three of the file, the table, the snapshot, the map. Blocks 2 and 3 are in use.
		{4, []int{4, 5, 6, 7, 8, 9, 10}, 11},
		{57, []int{57, 58, 59, 60, 61, 62, 63}, 2},
		{58, []int{58, 59, 60, 61, 62, 63, 4}, 5},
		{59, []int{59, 60, 61, 62, 63, 4, 5}, 6},
		{62, []int{62, 63, 4, 5, 6, 7, 8}, 9},
		{63, []int{63, 4, 5, 6, 7, 8, 9}, 10},
		{2, []int{4, 5, 6, 7, 8, 9, 10}, 11},
		{3, []int{4, 5, 6, 7, 8, 9, 10}, 11},
	} {
		image, _ := impl.Format(64, 0, 0)
		image = withRecord(image, func(f *impl.Fsinfo) { f.Cursor = c.cursor })
		name := fmt.Sprint("cursor ", c.cursor)
		out, code := plans(t, name, image, p.State, 1, create("one"))
		if code != impl.OK {
			t.Fatalf("%s: code %d", name, code)
		}
		behind := switched(t, image, out)
		inodes, _ := plainInodes(behind, out.Info.Ino)
		got := []int{inodes[1].Root.Direct[0], inodes[2].Root.Direct[0], inodes[2].Root.Direct[1], inodes[2].Root.Direct[2], out.Info.Ino.Direct[0], out.Info.Snaps[0], out.Info.Map.Direct[0]}
		if !slices.Equal(got, c.puts) || out.Info.Cursor != c.next {
			t.Errorf("%s: %v, cursor %d, want %v, cursor %d", name, got, out.Info.Cursor, c.puts, c.next)
		}
		sorted := slices.Sorted(slices.Values(c.puts))
		if !slices.Equal(blocksPut(out.Puts), sorted) {
			t.Errorf("%s: puts %v, want %v", name, blocksPut(out.Puts), sorted)
		}
		keepsPromise(t, name, image, p.State, 1, create("one"))
	}
	// Nothing is taken: the map begins at the record's own cursor.
	for _, cursor := range []int{2, 3, 4, 20, 62, 63} {
		image, _ := impl.Format(64, 0, 0)
		image, _ = keepsPromise(t, "a snapshot", image, impl.NewState(), 0, create("one"))
		image = withRecord(image, func(f *impl.Fsinfo) { f.Cursor = cursor })
		out, code := plans(t, "delete", image, impl.NewState(), 0, toDelete("one"))
		// Blocks 2, 4 and 5 are in use, 3 was the first map.
		want := map[int]int{2: 3, 3: 3, 4: 6}[cursor]
		if want == 0 {
			want = cursor
		}
		if code != impl.OK || len(out.Puts) != 1 || out.Puts[0].Block != want {
			t.Errorf("delete, cursor %d: %s, code %d, want %d", cursor, tellPlan(out), code, want)
		}
	}
}

// The order of fresh blocks over several files and trees of every level.
func TestTheOrderOfFreshBlocks(t *testing.T) {
	image, _ := impl.Format(600, 0, 0)
	p := newPlanter()
	p.file(1, "double", fileOf(142))
	p.file(1, "hole", strings.Repeat("\x00", 5000)+"x")
	p.file(1, "single", fileOf(13))
	p.link(1, "link", "single")
	out, code := plans(t, "all", image, p.State, 4, create("one"))
	if code != impl.OK {
		t.Fatalf("code %d", code)
	}
	behind := switched(t, image, out)
	inodes, _ := plainInodes(behind, out.Info.Ino)
	first := 8 // 2 has the table, 3 to 7 the map.
	order := []int{inodes[1].Root.Direct[0]}
	order = append(order, inodes[2].Root.Direct[:]...)
	for k := range 128 {
		order = append(order, wordAt(behind, inodes[2].Root.Single, k))
	}
	below := wordAt(behind, inodes[2].Root.Double, 0)
	order = append(order, wordAt(behind, below, 0), wordAt(behind, below, 1), inodes[2].Root.Single, below, inodes[2].Root.Double)
	order = append(order, inodes[3].Root.Direct[9])
	order = append(order, inodes[4].Root.Direct[:]...)
	order = append(order, wordAt(behind, inodes[4].Root.Single, 0), inodes[4].Root.Single, inodes[5].Root.Direct[0])
	order = append(order, out.Info.Ino.Direct[0], out.Info.Ino.Direct[1], out.Info.Snaps[0])
	for k, b := range order {
		if b != first+k {
			t.Fatalf("block %d of the order is %d, want %d", k, b, first+k)
		}
	}
	keepsPromise(t, "all", image, p.State, 4, create("one"))
}

// Blocks that plane 0 and snapshots have together, and those of snapshots alone.
func TestPlanesOfBlocks(t *testing.T) {
	image, _ := impl.Format(64, 0, 0)
	states := []impl.State{}
	p := example()
	for k := range 5 {
		p.file(1, fmt.Sprint("file", k), fmt.Sprint("bytes ", k))
		states = append(states, copyOf(p.State))
		image, _ = keepsPromise(t, "create", image, p.State, k, create(fmt.Sprint("s", k)))
	}
	words, _ := impl.MapWords(image)
	f, _, _ := impl.ChooseFsinfo(image)
	inodes, _ := plainInodes(image, f.Ino)
	for k := range 5 {
		// File k is in the state and in all snapshots from k on.
		want := 1
		for plane := k + 1; plane <= 5; plane++ {
			want |= 1 << plane
		}
		if b := inodes[7+k].Root.Direct[0]; words[b] != want {
			t.Errorf("file %d: block %d has the word %b, want %b", k, b, words[b], want)
		}
	}
	// Back to the second one, by each of the ways.
	second := copyOf(states[1])
	second.Clock = 10
	restored := image
	for k, act := range []impl.Act{restore("s1"), toDelete("s3"), toDelete("s1"), restore("s0"), create("s1"), toDelete("s4"), restore("s1"), toDelete("s2"), toDelete("s0"), toDelete("s1")} {
		var code int
		restored, code = keepsPromise(t, fmt.Sprint("way ", k), restored, second, 5+k, act)
		if code != impl.OK {
			t.Fatalf("way %d: code %d", k, code)
		}
		if list, _ := impl.Snapshots(restored); slices.ContainsFunc(list, func(s impl.Snap) bool { return s.Name == act.Name }) != (act.Kind != impl.ActDelete) {
			t.Errorf("way %d: %v", k, list)
		}
	}
	words, _ = impl.MapWords(restored)
	counted, _ := impl.MapCount(words)
	// The record, the root's block, /d's, five of files and links, two of two files, three of the table, the map's.
	if counted.Used != counted.Planes[0] || counted.Used != 2+1+1+4+2+3+1 {
		t.Errorf("at the end: %v", counted)
	}
	// What each snapshot was stays, whatever comes behind it.
	for k, s := range states {
		if got, code := impl.LoadSnap(image, fmt.Sprint("s", k)); code != impl.OK || !sameState(got, s) {
			t.Errorf("snapshot %d: code %d", k, code)
		}
	}
}

// A restored snapshot's blocks are taken where they lie; what differs is fresh.
func TestRestoredSnapshots(t *testing.T) {
	image, _ := impl.Format(128, 0, 0)
	p := example()
	p.file(1, "keep", fileOf(14))
	p.file(1, "change", "one")
	image, _ = keepsPromise(t, "create", image, p.State, 1, create("one"))
	was, _, _ := impl.ChooseFsinfo(image)
	image, _ = keepsPromise(t, "all goes", image, impl.NewState(), 2, impl.Act{})
	now, _, _ := impl.ChooseFsinfo(image)
	for name, c := range map[string]struct {
		change func(s *impl.State)
		fresh  int
	}{
		"as it was":         {func(s *impl.State) {}, 0},
		"another Clock":     {func(s *impl.State) { s.Clock = 500 }, 0},
		"a file's bytes":    {func(s *impl.State) { s.Nodes[8].Data = []byte("two") }, 2},
		"a Mode":            {func(s *impl.State) { s.Nodes[2].Mode = 1 }, 1},
		"below Single":      {func(s *impl.State) { s.Nodes[7].Data[512*13] = 'x' }, 3},
		"the present state": {func(s *impl.State) { *s = impl.NewState() }, 1},
	} {
		s := copyOf(p.State)
		c.change(&s)
		out, code := plans(t, name, image, s, 3, restore("one"))
		if code != impl.OK || len(out.Puts) != c.fresh+1 {
			t.Errorf("%s: %s, code %d", name, tellPlan(out), code)
		}
		if c.fresh == 0 && out.Info.Ino != was.Ino {
			t.Errorf("%s: the table is at %v, was at %v", name, out.Info.Ino, was.Ino)
		}
		if out.Info.Snaps != was.Snaps {
			t.Errorf("%s: the snapshot has gone: %v", name, out.Info.Snaps)
		}
		keepsPromise(t, name, image, s, 3, restore("one"))
		// Against the record's own table, all of it would be fresh.
		if name == "as it was" {
			if fresh, _ := impl.FreshCount(image, now.Ino, s); fresh < 20 {
				t.Errorf("against the present state: %d", fresh)
			}
		}
	}
	// The restored state and the snapshot have the same words.
	behind, _ := keepsPromise(t, "restored", image, p.State, 3, restore("one"))
	words, _ := impl.MapWords(behind)
	counted, _ := impl.MapCount(words)
	if counted.Planes[1] != counted.Planes[0]-2-1+1 {
		t.Errorf("restored: %v", counted)
	}
}

// Maps that were made by hand: a block that is in use is free by its word, and is
// written over. What then refuses the trees refuses the plan.
func TestTreesThatArePutInPieces(t *testing.T) {
	m := newMason(100)
	p := newPlanter()
	p.file(1, "a", "a")
	p.file(1, "single", fileOf(14))
	list := m.inodes(p.State)
	m.info.Ino = m.lay(plainTable(list))
	single := list[3].Root.Single
	m.words[single] = 0
	m.info.Cursor = single
	image := m.done()
	data := func(words ...int) []byte { return plainWords(words) }
	for _, c := range []struct {
		name string
		data []byte
		code int
	}{
		{"no pointers", []byte("bbbbbbbbbbbb"), impl.ErrCorrupt},
		{"pointer 1", data(5, 1, 7), impl.ErrCorrupt},
		{"pointer 100", data(100), impl.ErrCorrupt},
		{"pointers of other blocks", data(30, 99), impl.OK},
		{"wrong behind the end", data(30, 0, 100, 1), impl.OK},
	} {
		s := copyOf(p.State)
		s.Nodes[2].Data = c.data
		for _, act := range []impl.Act{{}, create("one")} {
			out, code := plans(t, c.name, image, s, 3, act)
			if code != c.code {
				t.Errorf("%s: %s, code %d, want %d", c.name, tellPlan(out), code, c.code)
			}
		}
		// Too few blocks for the snapshot come first, for the map last.
		for many := range 5 {
			short := leaveFree(image, single, 1)
			for b := range many {
				f, _, _ := plainChoose(short)
				words, _ := plainMapWords(short)
				words[60+b] = 0
				short = mapped(short, f, words)
			}
			plans(t, c.name+", short", short, s, 3, impl.Act{})
			plans(t, c.name+", short", short, s, 3, create("one"))
			if many == 1 && c.code != impl.OK {
				planRefused(t, c.name+", no block for the map", short, s, 3, impl.Act{}, impl.ErrCorrupt)
				planRefused(t, c.name+", no block for the snapshot", short, s, 3, create("one"), impl.ErrNoSpace)
			}
		}
	}
}

// Maps in which all or much is free that isn't.
func TestMapsMadeByHand(t *testing.T) {
	t.Parallel()
	for _, n := range []int{64, 130, 300, 1600, 2048} {
		m := newMason(n)
		p := example()
		p.file(1, "single", fileOf(14))
		m.info.Ino = m.state(p.State)
		m.snap(4, "four", 9, m.info.Ino)
		m.words = rightWords(n, 0)
		m.info.Map = m.lay(plainWords(slices.Concat(m.words[:n-1], []int{1})))
		for cursor := 2; cursor < min(n, 60); cursor++ {
			m.info.Cursor = cursor
			putRecords(m.image, m.info, m.info)
			s := copyOf(p.State)
			s.Nodes[3].Data = []byte("other bytes")
			s.Nodes[7].Data[512*13] ^= 0x55
			for _, act := range []impl.Act{{}, create("new"), toDelete("four"), restore("four")} {
				plans(t, fmt.Sprint(n, " blocks, cursor ", cursor), m.image, s, 3, act)
				plans(t, fmt.Sprint(n, " blocks, cursor ", cursor), m.image, p.State, 3, act)
			}
		}
	}
}

// A map that was made by hand has its own block free: the table is written there, and
// then the map again. A block is put once, as it is at the end.
func TestABlockThatIsWrittenTwice(t *testing.T) {
	m := newMason(130)
	m.info.Ino = m.state(impl.NewState())
	m.words[129] = 1 // No hole in the map.
	image := m.done()
	own, spare := m.info.Map.Direct[0], 60
	words := rightWords(130, 1)
	words[own], words[spare] = 0, 0
	image = mapped(withRecord(image, func(f *impl.Fsinfo) { f.Cursor = own }), m.info, words)
	s := impl.NewState()
	s.Nodes[1].Mode = 0
	out, code := plans(t, "twice", image, s, 3, impl.Act{})
	if code != impl.OK || !slices.Equal(blocksPut(out.Puts), []int{own, spare}) || out.Info.Ino.Direct[0] != own || out.Info.Map.Direct[0] != spare || out.Info.Map.Direct[1] != own {
		t.Fatalf("%s, code %d", tellPlan(out), code)
	}
	got, _ := impl.CpPlan(image, s, 3, impl.Act{})
	if !bytes.Equal(got.Puts[0].Data, make([]byte, 512)) {
		t.Errorf("block %d does not have the map's words of blocks 128 and 129", own)
	}
}
