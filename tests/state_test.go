package tests

import (
	"bytes"
	"fmt"
	"math"
	"math/rand"
	"reflect"
	"slices"
	"strings"
	"testing"

	"loop.example/s02533/impl"
)

// planter makes states by chapter 8's rules, without the functions that are
// tested.
type planter struct {
	impl.State
}

func newPlanter() *planter {
	root := impl.Node{Kind: 2, Links: 2, Mode: 0o755, Parent: 1, Gen: 1, Mtime: 1, Ctime: 1}
	return &planter{impl.State{Clock: 9, Nodes: []impl.Node{{}, root}}}
}

// enter puts an entry, whatever it is, into the first slot of a directory that is
// empty.
func (p *planter) enter(dir int, name string, ino, kind int) {
	data := &p.Nodes[dir].Data
	for at := 0; ; at += 32 {
		if at == len(*data) {
			*data = append(bytes.Clone(*data), make([]byte, 512)...)
		}
		if bytes.Equal((*data)[at:at+32], make([]byte, 32)) {
			copy((*data)[at:], slotOf(name, ino, kind))
			return
		}
	}
}

func (p *planter) grow(dir int, name string, n impl.Node) int {
	number := len(p.Nodes)
	n.Gen, n.Mtime, n.Ctime = 1+number%p.Clock, p.Clock, 1
	p.Nodes = append(p.Nodes, n)
	p.enter(dir, name, number, n.Kind)
	return number
}

func (p *planter) dir(dir int, name string) int {
	p.Nodes[dir].Links++
	return p.grow(dir, name, impl.Node{Kind: 2, Links: 2, Mode: 0o755, Parent: dir})
}

func (p *planter) file(dir int, name, data string) int {
	return p.grow(dir, name, impl.Node{Kind: 1, Links: 1, Mode: 0o644, Data: []byte(data)})
}

func (p *planter) link(dir int, name, target string) int {
	return p.grow(dir, name, impl.Node{Kind: 3, Links: 1, Mode: 0o777, Data: []byte(target)})
}

// again gives a file or link one name more.
func (p *planter) again(dir int, name string, ino int) {
	p.Nodes[ino].Links++
	p.enter(dir, name, ino, p.Nodes[ino].Kind)
}

func (p *planter) own(ino, mode, uid, gid int) {
	p.Nodes[ino].Mode, p.Nodes[ino].Uid, p.Nodes[ino].Gid = mode, uid, gid
}

func copyOf(s impl.State) impl.State {
	s.Nodes = slices.Clone(s.Nodes)
	for k := range s.Nodes {
		s.Nodes[k].Data = bytes.Clone(s.Nodes[k].Data)
	}
	return s
}

// sameState holds states against each other; no bytes and nil are the same.
func sameState(a, b impl.State) bool {
	if a.Clock != b.Clock || len(a.Nodes) != len(b.Nodes) {
		return false
	}
	for k := range a.Nodes {
		m, n := a.Nodes[k], b.Nodes[k]
		same := bytes.Equal(m.Data, n.Data)
		m.Data, n.Data = nil, nil
		if !same || !reflect.DeepEqual(m, n) {
			return false
		}
	}
	return true
}

// example is the state of chapter 8's worked examples: 2 is /d, 3 /d/f, 4 /l, 5
// /loop, 6 /d/up.
func example() *planter {
	p := newPlanter()
	p.dir(1, "d")
	p.file(2, "f", "hello")
	p.link(1, "l", "d/f")
	p.link(1, "loop", "/loop")
	p.link(2, "up", "../l")
	return p
}

// plainEntries are those of a directory, by slot.
func plainEntries(n impl.Node) []impl.Dirent {
	slots, _ := plainlyRight(n.Data)
	return slices.DeleteFunc(slots, func(d impl.Dirent) bool { return d == impl.Dirent{} })
}

func zeroNode(n impl.Node) bool {
	return n.Kind == 0 && n.Links == 0 && n.Mode == 0 && n.Uid == 0 && n.Gid == 0 && n.Parent == 0 &&
		n.Gen == 0 && n.Mtime == 0 && n.Ctime == 0 && len(n.Data) == 0
}

// plainNode reads the sentences of chapter 8 that are about one node.
func plainNode(s impl.State, number int) bool {
	n := s.Nodes[number]
	between := func(n, least, most int) bool { return least <= n && n <= most }
	if !between(n.Kind, 1, 3) || !between(n.Mode, 0, 4095) || !between(n.Uid, 0, 65535) || !between(n.Gid, 0, 65535) {
		return false
	}
	if !between(n.Gen, 1, s.Clock) || !between(n.Mtime, 1, s.Clock) || !between(n.Ctime, 1, s.Clock) || len(n.Data) > 262144 {
		return false
	}
	if n.Kind != 2 && n.Parent != 0 {
		return false
	}
	if n.Kind == 3 && (!between(len(n.Data), 1, 255) || bytes.IndexByte(n.Data, 0) >= 0) {
		return false
	}
	if n.Kind != 2 {
		return true
	}
	_, right := plainlyRight(n.Data)
	for _, e := range plainEntries(n) {
		if e.Ino == 1 || e.Ino >= len(s.Nodes) || s.Nodes[e.Ino].Kind != e.Kind || number == 1 && e.Name == ".snapshot" {
			return false
		}
	}
	return right
}

// plainLinks reads those about names and Links: where are the numbers of the
// directories that have an entry of the node, once for each entry.
func plainLinks(s impl.State, number int, where []int) bool {
	n := s.Nodes[number]
	if n.Links > 1000 {
		return false
	}
	if n.Kind != 2 {
		return n.Links >= 1 && n.Links == len(where)
	}
	dirs := 0
	for _, e := range plainEntries(n) {
		if e.Kind == 2 {
			dirs++
		}
	}
	if number == 1 {
		return n.Links == 2+dirs && n.Parent == 1
	}
	return n.Links == 2+dirs && len(where) == 1 && where[0] == n.Parent
}

// plainState reads chapter 8's rule sentence by sentence.
func plainState(s impl.State) bool {
	last := len(s.Nodes) - 1
	if s.Clock < 1 || s.Clock > 1<<40 || last < 1 || last > 1000 || !zeroNode(s.Nodes[0]) || zeroNode(s.Nodes[last]) || s.Nodes[1].Kind != 2 {
		return false
	}
	size, where := 0, make([][]int, len(s.Nodes))
	for number, n := range s.Nodes {
		size += len(n.Data)
		if zeroNode(n) {
			continue
		}
		if !plainNode(s, number) {
			return false
		}
		if n.Kind == 2 {
			for _, e := range plainEntries(n) {
				where[e.Ino] = append(where[e.Ino], number)
			}
		}
	}
	reached := map[int]bool{}
	plainReach(s, 1, reached)
	for number, n := range s.Nodes {
		if !zeroNode(n) && (!plainLinks(s, number, where[number]) || !reached[number]) {
			return false
		}
	}
	return size <= 1048576
}

func plainReach(s impl.State, number int, reached map[int]bool) {
	if reached[number] {
		return
	}
	reached[number] = true
	if s.Nodes[number].Kind == 2 {
		for _, e := range plainEntries(s.Nodes[number]) {
			plainReach(s, e.Ino, reached)
		}
	}
}

func plainAccess(n impl.Node, uid, gid, want int) bool {
	if want < 0 || want > 7 {
		return false
	}
	if uid == 0 {
		return true
	}
	first := 0
	if uid == n.Uid {
		first = 6
	} else if gid == n.Gid {
		first = 3
	}
	for bit := range 3 {
		if want>>bit&1 == 1 && n.Mode>>(first+bit)&1 == 0 {
			return false
		}
	}
	return true
}

// plainPieces cuts a text at its slashes: the names, and whether they do.
func plainPieces(text string) ([]string, bool) {
	names := slices.DeleteFunc(strings.Split(text, "/"), func(name string) bool { return name == "" })
	for _, name := range names {
		if len(name) > 26 {
			return nil, false
		}
	}
	return names, len(names) <= 40
}

func plainSplit(path string) ([]string, int) {
	if len(path) == 0 {
		return nil, impl.ErrInval
	}
	if len(path) > 512 {
		return nil, impl.ErrNameLong
	}
	if path[0] != '/' || strings.IndexByte(path, 0) >= 0 {
		return nil, impl.ErrInval
	}
	names, right := plainPieces(path)
	if !right {
		return nil, impl.ErrNameLong
	}
	return names, impl.OK
}

// wanderer walks by chapter 8's rule, one call a name.
type wanderer struct {
	s        impl.State
	uid, gid int
	follow   bool
	hops     int
}

func (w *wanderer) step(at int, names []string) (int, int) {
	if len(names) == 0 {
		return at, impl.OK
	}
	here, rest := w.s.Nodes[at], names[1:]
	if here.Kind != 2 {
		return 0, impl.ErrNotDir
	}
	if !plainAccess(here, w.uid, w.gid, 1) {
		return 0, impl.ErrAccess
	}
	if names[0] == "." {
		return w.step(at, rest)
	}
	if names[0] == ".." {
		return w.step(here.Parent, rest)
	}
	for _, e := range plainEntries(here) {
		if e.Name != names[0] {
			continue
		}
		if e.Kind == 3 && (len(rest) > 0 || w.follow) {
			return w.leap(at, string(w.s.Nodes[e.Ino].Data), rest)
		}
		return w.step(e.Ino, rest)
	}
	return 0, impl.ErrNoEnt
}

func (w *wanderer) leap(at int, target string, rest []string) (int, int) {
	if w.hops == 8 {
		return 0, impl.ErrLoop
	}
	w.hops++
	pieces, right := plainPieces(target)
	if !right {
		return 0, impl.ErrNameLong
	}
	if target[0] == '/' {
		at = 1
	}
	return w.step(at, slices.Concat(pieces, rest))
}

func plainWalk(s impl.State, uid, gid int, path string, follow bool) (int, int) {
	names, code := plainSplit(path)
	if code != impl.OK {
		return 0, code
	}
	w := wanderer{s: s, uid: uid, gid: gid, follow: follow}
	return w.step(1, names)
}

func plainWalkDir(s impl.State, uid, gid int, path string) (int, string, int) {
	names, code := plainSplit(path)
	if code != impl.OK {
		return 0, "", code
	}
	if len(names) == 0 {
		return 0, "", impl.ErrBusy
	}
	last := names[len(names)-1]
	if last == "." || last == ".." {
		return 0, "", impl.ErrInval
	}
	w := wanderer{s: s, uid: uid, gid: gid, follow: true}
	at, code := w.step(1, names[:len(names)-1])
	if code != impl.OK {
		return 0, "", code
	}
	// A name more asks of the directory just what is asked of it at the end.
	if _, code := w.step(at, []string{"."}); code != impl.OK {
		return 0, "", code
	}
	return at, last, impl.OK
}

// walks holds Walk against a node and a code, and looks that nothing was changed.
func walks(t *testing.T, s impl.State, uid, gid int, path string, follow bool, ino, code int) {
	t.Helper()
	before := copyOf(s)
	if n, got := impl.Walk(s, uid, gid, path, follow); n != ino || got != code {
		t.Errorf("user %d, %d, path %.80q, follow %v: %d, code %d, want %d, code %d", uid, gid, path, follow, n, got, ino, code)
	}
	if !sameState(s, before) {
		t.Fatalf("the argument has been changed")
	}
}

func walksTo(t *testing.T, s impl.State, uid, gid int, path string, ino int, name string, code int) {
	t.Helper()
	before := copyOf(s)
	if n, last, got := impl.WalkDir(s, uid, gid, path); n != ino || last != name || got != code {
		t.Errorf("user %d, %d, path %.80q: %d, %q, code %d, want %d, %q, code %d", uid, gid, path, n, last, got, ino, name, code)
	}
	if !sameState(s, before) {
		t.Fatalf("the argument has been changed")
	}
}

// walksPlainly holds all walks of a path against the rule; it answers the codes.
func walksPlainly(t *testing.T, s impl.State, uid, gid int, path string) []int {
	t.Helper()
	codes := []int{}
	for _, follow := range []bool{false, true} {
		ino, code := plainWalk(s, uid, gid, path, follow)
		walks(t, s, uid, gid, path, follow, ino, code)
		codes = append(codes, code)
	}
	ino, name, code := plainWalkDir(s, uid, gid, path)
	walksTo(t, s, uid, gid, path, ino, name, code)
	return append(codes, code)
}

func sound(t *testing.T, name string, s impl.State) {
	t.Helper()
	if !plainState(s) {
		t.Fatalf("%s: the test's own state isn't right", name)
	}
	before := copyOf(s)
	if code := impl.StateCheck(s); code != impl.OK {
		t.Errorf("%s: code %d", name, code)
	}
	if !sameState(s, before) {
		t.Errorf("%s: the argument has been changed", name)
	}
}

// unsound sees to it that no function takes the state, whatever else is asked.
func unsound(t *testing.T, name string, s impl.State) {
	t.Helper()
	if plainState(s) {
		t.Fatalf("%s: the test's own state is right", name)
	}
	before := copyOf(s)
	if code := impl.StateCheck(s); code != impl.ErrCorrupt {
		t.Errorf("%s: check: code %d", name, code)
	}
	for _, path := range []string{"/", "", "/d/f", "x", "/nobody", strings.Repeat("/a", 300)} {
		if n, code := impl.Walk(s, 0, 0, path, true); n != 0 || code != impl.ErrCorrupt {
			t.Errorf("%s: walk: %d, code %d", name, n, code)
		}
		if n, last, code := impl.WalkDir(s, 0, 0, path); n != 0 || last != "" || code != impl.ErrCorrupt {
			t.Errorf("%s: walk to the last: %d, %q, code %d", name, n, last, code)
		}
	}
	if list, code := impl.ListTree(s); len(list) != 0 || code != impl.ErrCorrupt {
		t.Errorf("%s: list: %v, code %d", name, list, code)
	}
	if !sameState(s, before) {
		t.Errorf("%s: the argument has been changed", name)
	}
}

func TestANewState(t *testing.T) {
	root := impl.Node{Kind: 2, Links: 2, Mode: 493, Parent: 1, Gen: 1, Mtime: 1, Ctime: 1}
	want := impl.State{Clock: 1, Nodes: []impl.Node{{}, root}}
	s := impl.NewState()
	if !sameState(s, want) {
		t.Errorf("%v", s)
	}
	sound(t, "new", s)
	s.Nodes[1].Mode = 7
	s.Nodes[0].Kind = 1
	if !sameState(impl.NewState(), want) {
		t.Errorf("two new states share memory")
	}
	if list, code := impl.ListTree(want); len(list) != 0 || code != impl.OK {
		t.Errorf("list: %v, code %d", list, code)
	}
	walks(t, want, 0, 0, "/", true, 1, impl.OK)
	walks(t, want, 9, 9, "/x", true, 0, impl.ErrNoEnt)
	walksTo(t, want, 9, 9, "/x", 1, "x", impl.OK)
}

// fullState has as many bytes as may be, of four files and the root.
func fullState(more int) *planter {
	p := newPlanter()
	for k := range 3 {
		p.file(1, numberedName(k), strings.Repeat("x", 262144))
	}
	p.file(1, "rest", strings.Repeat("x", 262144-512+more))
	return p
}

// starOf has so many directories below the root.
func starOf(many int) *planter {
	p := newPlanter()
	for k := range many {
		p.dir(1, numberedName(k))
	}
	return p
}

// chainOf has so many directories, each below the one before.
func chainOf(many int, name string) *planter {
	p := newPlanter()
	at := 1
	for range many {
		at = p.dir(at, name)
	}
	return p
}

func TestRightStates(t *testing.T) {
	sound(t, "example", example().State)
	for name, change := range map[string]func(p *planter){
		"Clock 9, all times 9":            func(p *planter) { p.Nodes[3].Gen, p.Nodes[3].Mtime, p.Nodes[3].Ctime = 9, 9, 9 },
		"all times 1":                     func(p *planter) { p.Nodes[3].Gen, p.Nodes[3].Mtime, p.Nodes[3].Ctime = 1, 1, 1 },
		"the greatest Clock":              func(p *planter) { p.Clock = 1 << 40; p.Nodes[3].Gen, p.Nodes[2].Mtime = 1<<40, 1<<40 },
		"the greatest Mode":               func(p *planter) { p.Nodes[1].Mode, p.Nodes[3].Mode, p.Nodes[4].Mode = 4095, 4095, 4095 },
		"the least Mode":                  func(p *planter) { p.Nodes[1].Mode, p.Nodes[3].Mode, p.Nodes[4].Mode = 0, 0, 0 },
		"the greatest users":              func(p *planter) { p.own(1, 0, 65535, 65535); p.own(3, 0, 65535, 65535) },
		"no Data of a file":               func(p *planter) { p.Nodes[3].Data = nil },
		"zeros in a file":                 func(p *planter) { p.Nodes[3].Data = make([]byte, 5) },
		"MaxFile bytes":                   func(p *planter) { p.Nodes[3].Data = make([]byte, 262144) },
		"a target of 1 byte":              func(p *planter) { p.Nodes[4].Data = []byte("x") },
		"a target of MaxTarget bytes":     func(p *planter) { p.Nodes[4].Data = bytes.Repeat([]byte("x"), 255) },
		"a target of any bytes":           func(p *planter) { p.Nodes[4].Data = []byte{1, 255, '/', '/', 128} },
		"a file of two names":             func(p *planter) { p.again(1, "f", 3) },
		"a link of two names":             func(p *planter) { p.again(2, "l", 4); p.again(2, "m", 4) },
		"free nodes between":              func(p *planter) { p.Nodes = append(p.Nodes, make([]impl.Node, 3)...); p.file(2, "far", "") },
		".snapshot below a directory":     func(p *planter) { p.file(2, ".snapshot", "") },
		"a directory .snapshot":           func(p *planter) { p.dir(2, ".snapshot") },
		"nearly .snapshot":                func(p *planter) { p.file(1, ".snapshots", ""); p.file(1, ".Snapshot", ""); p.file(1, "snapshot", "") },
		"an empty directory":              func(p *planter) { p.dir(2, "e") },
		"a directory of a greater Parent": func(p *planter) { greater(p) },
		"an empty slot ahead in the root": func(p *planter) {
			p.Nodes[1].Data = append(dirOf(nil, slotOf("x", 7, 1)), p.Nodes[1].Data...)
			seven(p)
		},
		"Data that are empty but not nil":  func(p *planter) { p.Nodes[0].Data = []byte{}; p.Nodes[3].Data = []byte{} },
		"a file that is its own directory": func(p *planter) { p.Nodes[3].Data = bytes.Clone(p.Nodes[1].Data) },
	} {
		p := example()
		change(p)
		sound(t, name, p.State)
	}
	sound(t, "MaxBytes", fullState(0).State)
	sound(t, "a directory of MaxLinks", starOf(998).State)
	sound(t, "the deepest chain", chainOf(999, "d").State)
}

// seven gives the example a file 7 whose entry is there.
func seven(p *planter) {
	p.Nodes = append(p.Nodes, impl.Node{Kind: 1, Links: 1, Gen: 1, Mtime: 1, Ctime: 1})
}

// greater gives the example the directory 8 in the root, and 7 below it.
func greater(p *planter) {
	dir := impl.Node{Kind: 2, Links: 2, Gen: 1, Mtime: 1, Ctime: 1, Parent: 8}
	p.Nodes = append(p.Nodes, dir)
	p.dir(1, "eight")
	p.Nodes[8].Links++
	p.enter(8, "seven", 7, 2)
}

func TestStatesOfManyNodes(t *testing.T) {
	p := newPlanter()
	for k := range 999 {
		p.file(1, numberedName(k), "")
	}
	sound(t, "MaxInodes", p.State)
	p.Nodes = append(p.Nodes, impl.Node{})
	unsound(t, "a free node behind MaxInodes", p.State)
	p.Nodes[1001] = p.Nodes[1000]
	unsound(t, "a node behind MaxInodes", p.State)
	p.enter(1, "more", 1001, 1)
	unsound(t, "an entry of a node behind MaxInodes", p.State)

	p = newPlanter()
	p.file(1, "f", "")
	for k := range 999 {
		p.again(1, numberedName(k), 2)
	}
	sound(t, "a file of MaxLinks", p.State)
	p.again(1, "more", 2)
	unsound(t, "a file of too many Links", p.State)

	unsound(t, "a directory of too many Links", starOf(999).State)
	unsound(t, "one byte more than MaxBytes", fullState(1).State)
	unsound(t, "MaxFile bytes each, more than MaxBytes", fullState(512).State)
	for _, many := range []int{0, 1} {
		s := impl.NewState()
		s.Nodes = s.Nodes[:many]
		unsound(t, fmt.Sprint(many, " nodes"), s)
	}
	unsound(t, "nothing", impl.State{})
	unsound(t, "very many nodes", impl.State{Clock: 1, Nodes: make([]impl.Node, 300000)})
}

type spoiling struct {
	name  string
	spoil func(p *planter)
}

// wrongNumbers are the fields of nodes outside of their bounds, one at a time.
func wrongNumbers() []spoiling {
	list := []spoiling{}
	add := func(name string, field func(s *impl.State) *int, values ...int) {
		for _, n := range append(values, math.MinInt, math.MaxInt, -1, 1<<41, 1<<56+2) {
			list = append(list, spoiling{fmt.Sprint(name, " ", n), func(p *planter) { *field(&p.State) = n }})
		}
	}
	add("Clock", func(s *impl.State) *int { return &s.Clock }, 0, 8, 1<<40+1)
	for number := 1; number <= 6; number++ {
		node := func(s *impl.State) *impl.Node { return &s.Nodes[number] }
		name := fmt.Sprint("node ", number, ": ")
		add(name+"Links", func(s *impl.State) *int { return &node(s).Links }, 0, 4, 1001)
		add(name+"Mode", func(s *impl.State) *int { return &node(s).Mode }, 4096)
		add(name+"Uid", func(s *impl.State) *int { return &node(s).Uid }, 65536)
		add(name+"Gid", func(s *impl.State) *int { return &node(s).Gid }, 65536)
		add(name+"Parent", func(s *impl.State) *int { return &node(s).Parent }, 3, 4, 7, 1000, 1001)
		add(name+"Gen", func(s *impl.State) *int { return &node(s).Gen }, 0, 10)
		add(name+"Mtime", func(s *impl.State) *int { return &node(s).Mtime }, 0, 10)
		add(name+"Ctime", func(s *impl.State) *int { return &node(s).Ctime }, 0, 10)
		kind := example().Nodes[number].Kind
		add(name+"Kind", func(s *impl.State) *int { return &node(s).Kind }, 0, 4, 1+kind%3, 1+(kind+1)%3, 256+kind)
	}
	for number, parent := range map[int]int{1: 0, 2: 0, 3: 1, 4: 1, 5: 2, 6: 2} {
		list = append(list, spoiling{fmt.Sprint("Parent of ", number), func(p *planter) { p.Nodes[number].Parent = parent }})
	}
	list = append(list, spoiling{"the root's Parent below it", func(p *planter) { p.Nodes[1].Parent = 2 }})
	return list
}

// notFree are nodes that should be all zero and nearly are.
func notFree() []spoiling {
	list := []spoiling{}
	for name, n := range map[string]impl.Node{
		"Kind": {Kind: 1}, "Links": {Links: 1}, "Mode": {Mode: 1}, "Uid": {Uid: 1}, "Gid": {Gid: 1}, "Parent": {Parent: 1},
		"Gen": {Gen: 1}, "Mtime": {Mtime: 1}, "Ctime": {Ctime: 1}, "Data": {Data: []byte{0}}, "a negative Mode": {Mode: -1},
		"a file": {Kind: 1, Links: 1, Gen: 1, Mtime: 1, Ctime: 1}, "a directory": {Kind: 2, Links: 2, Parent: 1, Gen: 1, Mtime: 1, Ctime: 1},
		"all but a Kind": {Links: 1, Gen: 1, Mtime: 1, Ctime: 1},
	} {
		list = append(list,
			spoiling{"node 0: " + name, func(p *planter) { p.Nodes[0] = n }},
			spoiling{"a free node in the middle: " + name, func(p *planter) { p.Nodes = append(p.Nodes, n); p.file(1, "last", "") }},
			spoiling{"the last node: " + name, func(p *planter) { p.Nodes = append(p.Nodes, n) }})
	}
	return append(list,
		spoiling{"the last node is free", func(p *planter) { p.Nodes = append(p.Nodes, impl.Node{}) }},
		spoiling{"many free ones at the end", func(p *planter) { p.Nodes = append(p.Nodes, make([]impl.Node, 50)...) }},
		spoiling{"node 1 is free", func(p *planter) { p.Nodes[1] = impl.Node{} }},
		spoiling{"node 1 is free and the last", func(p *planter) { p.Nodes = make([]impl.Node, 2) }},
		spoiling{"a named node is free", func(p *planter) { p.Nodes[3] = impl.Node{} }})
}

func wrongData() []spoiling {
	return []spoiling{
		{"the root is a file", func(p *planter) {
			p.Nodes = p.Nodes[:2]
			p.Nodes[1] = impl.Node{Kind: 1, Links: 1, Gen: 1, Mtime: 1, Ctime: 1}
		}},
		{"the root is a link", func(p *planter) {
			p.Nodes = p.Nodes[:2]
			p.Nodes[1] = impl.Node{Kind: 3, Links: 1, Gen: 1, Mtime: 1, Ctime: 1, Data: []byte("/")}
		}},
		{"a file of too many bytes", func(p *planter) { p.Nodes[3].Data = make([]byte, 262145) }},
		{"a file of far too many bytes", func(p *planter) { p.Nodes[3].Data = make([]byte, 1<<24) }},
		{"an empty target", func(p *planter) { p.Nodes[4].Data = nil }},
		{"a target of 256 bytes", func(p *planter) { p.Nodes[4].Data = bytes.Repeat([]byte("x"), 256) }},
		{"a target of zero", func(p *planter) { p.Nodes[4].Data = []byte{0} }},
		{"a zero at the end of a target", func(p *planter) { p.Nodes[4].Data = []byte("abc\x00") }},
		{"a zero ahead in a target", func(p *planter) { p.Nodes[4].Data = []byte("\x00abc") }},
		{"a directory of 511 bytes", func(p *planter) { p.Nodes[2].Data = p.Nodes[2].Data[:511] }},
		{"a directory with an empty block behind", func(p *planter) { p.Nodes[2].Data = append(p.Nodes[2].Data, make([]byte, 512)...) }},
		{"a block of empty slots", func(p *planter) { p.dir(1, "e"); p.Nodes[7].Data = make([]byte, 512) }},
		{"a byte behind a name", func(p *planter) { p.Nodes[2].Data[31] = 1 }},
		{"a name twice", func(p *planter) { p.again(2, "f", 3) }},
		{"a bad name", func(p *planter) { p.file(2, "..", "") }},
		{"a name with a slash", func(p *planter) { p.file(1, "a/b", "") }},
		{"the root's Data", func(p *planter) { p.Nodes[1].Data[4] = 9 }},
		{"more than MaxFile bytes of a directory", func(p *planter) { p.Nodes[2].Data = crowded(mostEntries + 16) }},
	}
}

func wrongEntries() []spoiling {
	list := []spoiling{
		{"an entry of a free node", func(p *planter) {
			p.Nodes = append(p.Nodes, impl.Node{})
			p.file(1, "last", "")
			p.enter(2, "x", 7, 1)
		}},
		{"an entry of a node behind the last", func(p *planter) { p.enter(2, "x", 7, 1) }},
		{"an entry of the number 1000", func(p *planter) { p.enter(2, "x", 1000, 1) }},
		{"an entry of the root in a directory", func(p *planter) { p.enter(2, "x", 1, 2); p.Nodes[2].Links++ }},
		{"an entry of the root in itself", func(p *planter) { p.enter(1, "x", 1, 2); p.Nodes[1].Links++ }},
		{"an entry of the root, Links as they were", func(p *planter) { p.enter(2, "x", 1, 2) }},
		{"a file .snapshot in the root", func(p *planter) { p.file(1, ".snapshot", "") }},
		{"a directory .snapshot in the root", func(p *planter) { p.dir(1, ".snapshot") }},
		{"a link .snapshot in the root", func(p *planter) { p.link(1, ".snapshot", "d") }},
		{"a directory twice in its Parent", func(p *planter) { p.enter(1, "e", 2, 2); p.Nodes[1].Links++ }},
		{"a directory twice, Links as they were", func(p *planter) { p.enter(1, "e", 2, 2) }},
		{"a directory in its Parent and beside", func(p *planter) { p.dir(1, "e"); p.enter(7, "x", 2, 2); p.Nodes[7].Links++ }},
		{"a directory in itself", func(p *planter) { p.enter(2, "x", 2, 2); p.Nodes[2].Links++ }},
		{"a directory not named", func(p *planter) { p.dir(1, "e"); p.Nodes[1].Links--; p.Nodes[1].Data = crossOut(p.Nodes[1].Data, "e") }},
		{"a directory not named, Links as if", func(p *planter) { p.dir(1, "e"); p.Nodes[1].Data = crossOut(p.Nodes[1].Data, "e") }},
		{"a directory outside of its Parent", func(p *planter) { p.dir(1, "e"); p.Nodes[7].Parent = 2 }},
		{"a directory outside of its Parent, Links of the Parent", func(p *planter) {
			p.dir(1, "e")
			p.Nodes[7].Parent = 2
			p.Nodes[2].Links, p.Nodes[1].Links = 3, 3
		}},
		{"a directory whose Parent it is", func(p *planter) { p.dir(1, "e"); p.Nodes[7].Parent = 7 }},
		{"a directory whose Parent is a file", func(p *planter) { p.dir(1, "e"); p.Nodes[7].Parent = 3 }},
		{"a file of no name", func(p *planter) { p.Nodes[2].Data = crossOut(p.Nodes[2].Data, "f") }},
		{"a file of no name and no Links", func(p *planter) { p.Nodes[2].Data = crossOut(p.Nodes[2].Data, "f"); p.Nodes[3].Links = 0 }},
		{"a file of two names and one Link", func(p *planter) { p.enter(1, "f", 3, 1) }},
		{"a file of one name and two Links", func(p *planter) { p.Nodes[3].Links = 2 }},
		{"a link of two names and one Link", func(p *planter) { p.enter(1, "m", 4, 3) }},
		{"a link of one name and two Links", func(p *planter) { p.Nodes[4].Links = 2 }},
		{"a directory of one Link", func(p *planter) { p.dir(1, "e"); p.Nodes[7].Links = 1 }},
		{"a directory of three Links and no directory", func(p *planter) { p.dir(1, "e"); p.Nodes[7].Links = 3 }},
		{"the root of one Link less", func(p *planter) { p.Nodes[1].Links-- }},
		{"a directory counts its files", func(p *planter) { p.Nodes[2].Links = 4 }},
	}
	for _, c := range []struct {
		dir    int
		name   string
		number int
	}{{1, "d", 2}, {2, "f", 3}, {1, "l", 4}} {
		for kind := range 5 {
			if kind != example().Nodes[c.number].Kind {
				list = append(list, spoiling{fmt.Sprint("entry of ", c.name, " of Kind ", kind), func(p *planter) {
					p.Nodes[c.dir].Data = crossOut(p.Nodes[c.dir].Data, c.name)
					p.enter(c.dir, c.name, c.number, kind)
				}})
			}
		}
	}
	return list
}

// crossOut empties the slot of a name, and takes the bytes away if there is no
// other entry.
func crossOut(data []byte, name string) []byte {
	data = bytes.Clone(data)
	for at := 0; at < len(data); at += 32 {
		if string(data[at+6:at+6+int(data[at+5])]) == name {
			clear(data[at : at+32])
		}
	}
	if bytes.Equal(data, make([]byte, len(data))) {
		return nil
	}
	return data
}

func circles() []spoiling {
	dir := func(p *planter, parent int) int {
		p.Nodes = append(p.Nodes, impl.Node{Kind: 2, Links: 2, Parent: parent, Gen: 1, Mtime: 1, Ctime: 1})
		return len(p.Nodes) - 1
	}
	name := func(p *planter, parent, child int) {
		p.enter(parent, "x", child, 2)
		p.Nodes[parent].Links++
	}
	return []spoiling{
		{"a directory that is below itself alone", func(p *planter) { name(p, 7, dir(p, 7)) }},
		{"two directories below each other", func(p *planter) { dir(p, 8); dir(p, 7); name(p, 7, 8); name(p, 8, 7) }},
		{"a circle of three with a file", func(p *planter) {
			dir(p, 9)
			dir(p, 7)
			dir(p, 8)
			name(p, 7, 8)
			name(p, 8, 9)
			name(p, 9, 7)
			p.file(8, "f", "")
		}},
		{"a circle that has a file of the root", func(p *planter) { name(p, 7, dir(p, 7)); p.again(7, "f", 3) }},
		{"a circle with a directory that hangs off it", func(p *planter) { name(p, 7, dir(p, 7)); p.dir(7, "y") }},
	}
}

func TestStatesThatAreNearlyRight(t *testing.T) {
	for _, list := range [][]spoiling{wrongNumbers(), notFree(), wrongData(), wrongEntries(), circles()} {
		for _, c := range list {
			p := example()
			c.spoil(p)
			unsound(t, c.name, p.State)
		}
	}
}

// Each way down such a chain is another one, and there are far too many of them.
func TestDirectoriesOfTwoNamesBelowEachOther(t *testing.T) {
	p := newPlanter()
	at := 1
	for range 60 {
		below := p.dir(at, "a")
		p.enter(at, "b", below, 2)
		p.Nodes[at].Links++
		at = below
	}
	if code := impl.StateCheck(p.State); code != impl.ErrCorrupt {
		t.Errorf("code %d", code)
	}
}

// Every field of a state of any shape that gets another number is refused or taken
// by the rule.
func TestStatesAtRandom(t *testing.T) {
	random := rand.New(rand.NewSource(81))
	right := 0
	for round := range 4000 {
		p := anyState(random, 2+random.Intn(12))
		if !plainState(p.State) {
			t.Fatalf("round %d: the test's own state isn't right", round)
		}
		for range random.Intn(3) {
			spoilAnything(random, p)
		}
		if plainState(p.State) {
			right++
			sound(t, fmt.Sprint("round ", round), p.State)
			continue
		}
		unsound(t, fmt.Sprint("round ", round), p.State)
	}
	if right < 1000 || right > 3000 {
		t.Errorf("%d of 4000 are right", right)
	}
}

func spoilAnything(random *rand.Rand, p *planter) {
	n := &p.Nodes[random.Intn(len(p.Nodes))]
	small := []int{-1, 0, 1, 2, 3, 4, 5, 9, 10, 1000, 4095, 65535}[random.Intn(12)]
	switch random.Intn(13) {
	case 0:
		n.Kind = small
	case 1:
		n.Links = small
	case 2:
		n.Mode = small
	case 3:
		n.Uid = small
	case 4:
		n.Gid = small
	case 5:
		n.Parent = small
	case 6:
		n.Gen = small
	case 7:
		n.Mtime = small
	case 8:
		n.Ctime = small
	case 9:
		p.Clock = small
	case 10:
		if len(n.Data) > 0 {
			n.Data[random.Intn(len(n.Data))] = byte(random.Intn(256))
		}
	case 11:
		*n = impl.Node{}
	default:
		p.enter(1, numberedName(small+1), 1+random.Intn(len(p.Nodes)), 1+random.Intn(3))
	}
}

// someText is what links lead to and paths are: short names, dots, slashes.
func someText(random *rand.Rand, most int) string {
	text := ""
	for range 1 + random.Intn(most) {
		text += []string{"/", "//", "", "", ""}[random.Intn(5)]
		text += []string{"a", "b", "c", "d", "e", ".", "..", "a", "b", "none"}[random.Intn(10)]
		text += []string{"/", "/", "/", "//", "///"}[random.Intn(5)]
	}
	return strings.TrimSuffix(text, []string{"", "/", "///"}[random.Intn(3)])
}

// anyState has files, directories and links of few names under each other, of a
// few users and any modes.
func anyState(random *rand.Rand, many int) *planter {
	p := newPlanter()
	dirs := []int{1}
	for range many {
		dir, name := dirs[random.Intn(len(dirs))], string("abcde"[random.Intn(5)])
		if slices.ContainsFunc(plainEntries(p.Nodes[dir]), func(e impl.Dirent) bool { return e.Name == name }) {
			continue
		}
		made := len(p.Nodes)
		switch random.Intn(7) {
		case 0, 1, 2:
			dirs = append(dirs, p.dir(dir, name))
		case 3, 4, 5:
			p.link(dir, name, someText(random, 4))
		default:
			p.file(dir, name, "x")
		}
		mode := []int{0o777, 0o755, 0o111, 0o700, 0o010, 0o001, 0o666, random.Intn(4096)}[random.Intn(8)]
		p.own(made, mode, random.Intn(3), random.Intn(3))
	}
	return p
}

func TestMayAccess(t *testing.T) {
	wants := []int{math.MinInt, -8, -1, 0, 1, 2, 3, 4, 5, 6, 7, 8, 9, 15, 1 << 32, 1<<56 + 1, math.MaxInt}
	for mode := range 4096 {
		n := impl.Node{Kind: 1, Mode: mode, Uid: 5, Gid: 6}
		for _, user := range [][2]int{{0, 0}, {0, 6}, {5, 0}, {5, 6}, {5, 7}, {7, 6}, {7, 5}, {6, 5}, {-5, 6}, {math.MinInt, math.MaxInt}} {
			for _, want := range wants {
				if got, may := impl.MayAccess(n, user[0], user[1], want), plainAccess(n, user[0], user[1], want); got != may {
					t.Fatalf("mode %o, user %v, want %d: %v", mode, user, want, got)
				}
			}
		}
	}
	for _, c := range []struct {
		mode, uid, gid, want int
		may                  bool
	}{
		{0, 0, 9, 7, true}, {0, 0, 9, 8, false}, {0o777, 0, 0, -1, false}, {0o777, 5, 6, 8, false},
		{0o077, 5, 6, 1, false}, {0o707, 9, 6, 1, false}, {0o770, 9, 9, 1, false}, {0o777, 9, 9, 7, true},
		{0o400, 5, 6, 4, true}, {0o400, 5, 6, 5, false}, {0o040, 9, 6, 4, true}, {0o004, 9, 9, 4, true}, {0, 9, 9, 0, true},
		{7000, 9, 9, 0, true}, {-1, 9, 9, 7, true}, {math.MinInt, 5, 6, 1, false}, {1 << 20, 5, 9, 1, false},
	} {
		if got := impl.MayAccess(impl.Node{Mode: c.mode, Uid: 5, Gid: 6}, c.uid, c.gid, c.want); got != c.may {
			t.Errorf("%v: %v", c, got)
		}
	}
	// A node that belongs to user 0 is no other user's.
	if impl.MayAccess(impl.Node{Mode: 0o700}, 1, 0, 1) || !impl.MayAccess(impl.Node{Mode: 0o070}, 1, 0, 7) {
		t.Errorf("user and group 0 of a node")
	}
}

func splits(t *testing.T, path string) int {
	t.Helper()
	want, code := plainSplit(path)
	names, got := impl.SplitPath(path)
	if got != code || !slices.Equal(names, want) {
		t.Errorf("path %.80q of %d bytes: %.80q, code %d, want %.80q, code %d", path, len(path), names, got, want, code)
	}
	clear(names)
	if again, _ := impl.SplitPath(path); !slices.Equal(again, want) {
		t.Errorf("path %.80q: two answers share memory", path)
	}
	return code
}

func TestSplitPath(t *testing.T) {
	many, long := strings.Repeat, strings.Repeat("x", 26)
	for path, want := range map[string]int{
		"": impl.ErrInval, "/": 0, "a": impl.ErrInval, "a/": impl.ErrInval, " /a": impl.ErrInval, "./a": impl.ErrInval, "../a": impl.ErrInval,
		"/a": 0, "//a": 0, "/a/": 0, "/a//b///": 0, "/.": 0, "/..": 0, "/./..//...": 0, "/\xff/\xc0\xaf": 0, "/a b/\n": 0, "\\a": impl.ErrInval,
		"\x00": impl.ErrInval, "/\x00": impl.ErrInval, "/a\x00": impl.ErrInval, "\x00/a": impl.ErrInval, "/a/\x00/b": impl.ErrInval,
		many("/", 512): 0, many("/", 513): impl.ErrNameLong, many("a", 512): impl.ErrInval, many("a", 513): impl.ErrNameLong, many("\x00", 513): impl.ErrNameLong,
		many("/", 511) + "\x00": impl.ErrInval, many("/", 511) + "a": 0, many("/", 512) + "\x00": impl.ErrNameLong,
		many("/a", 40): 0, many("/a", 41): impl.ErrNameLong, many("//a", 40) + "//": 0, many("/.", 40): 0, many("/..", 41): impl.ErrNameLong,
		many("/a", 41) + "\x00": impl.ErrInval, many("a/", 41): impl.ErrInval, many("/a", 40) + "/" + long + "x": impl.ErrNameLong,
		"/" + long: 0, "/" + long + "x": impl.ErrNameLong, "/a/" + long + "x/b": impl.ErrNameLong, "/" + long + "/" + long + "/": 0,
		"/" + long + "x\x00": impl.ErrInval, long + "x": impl.ErrInval, "/" + many("ä", 13): 0, "/" + many("ä", 14): impl.ErrNameLong,
		many("/"+many("y", 26), 18) + "/" + many("z", 25): 0, many("/"+many("y", 26), 19): impl.ErrNameLong, "/" + many("y", 100000): impl.ErrNameLong,
	} {
		if code := splits(t, path); code != want {
			t.Errorf("path %.80q of %d bytes: the test's own rule answers %d, want %d", path, len(path), code, want)
		}
	}
	names, _ := impl.SplitPath("//a/./b/..///\xffc/")
	if !slices.Equal(names, []string{"a", ".", "b", "..", "\xffc"}) {
		t.Errorf("names: %q", names)
	}
	for n := range 520 {
		splits(t, many("/", n))
		splits(t, "/"+many("ab/", n))
		splits(t, "/"+many("q", n))
	}
}

func TestSplitPathAtRandom(t *testing.T) {
	random := rand.New(rand.NewSource(82))
	seen := map[int]int{}
	for range 20000 {
		letters := []string{"/a", "/", "/.", "/..", "bc", "\x00", "é", "/zzzzzzzzzzzzzzzzzzzzzzzzz", "\xff"}
		order := random.Perm(len(letters))
		path := []string{"/", "/", "/", "/", "", "x"}[random.Intn(6)]
		for range random.Intn(60) {
			if pick := letters[order[random.Intn(1+random.Intn(len(letters)))]]; pick != "\x00" || random.Intn(40) == 0 {
				path += pick
			}
		}
		seen[splits(t, path)]++
	}
	if seen[impl.OK] < 2000 || seen[impl.ErrInval] < 2000 || seen[impl.ErrNameLong] < 2000 {
		t.Errorf("codes: %v", seen)
	}
}

func TestWorkedExamplesOfWalking(t *testing.T) {
	p := example()
	s := p.State
	walks(t, s, 0, 0, "/l", false, 4, impl.OK)
	walks(t, s, 0, 0, "/l", true, 3, impl.OK)
	walks(t, s, 0, 0, "/d/up", true, 3, impl.OK)
	walks(t, s, 0, 0, "/loop", true, 0, impl.ErrLoop)
	walks(t, s, 0, 0, "/loop", false, 5, impl.OK)
	walks(t, s, 0, 0, "/d/f/.", true, 0, impl.ErrNotDir)
	walks(t, s, 0, 0, "/d/../d/./f", true, 3, impl.OK)
	p.own(2, 0o750, 5, 6)
	walks(t, s, 7, 7, "/d/f", true, 0, impl.ErrAccess)
	walks(t, s, 7, 7, "/l", true, 0, impl.ErrAccess)
	walks(t, s, 7, 7, "/l", false, 4, impl.OK)
	walks(t, s, 7, 7, "/d", true, 2, impl.OK)
	for _, path := range []string{"/", "/d", "/d/", "/d/f", "/l", "/l/", "/l/.", "/loop/x", "/d/up", "/d/up/..", "/..", "/../../d/f", "/d/none", "/none", "/none/d", "/d/f/x", "/D"} {
		for _, user := range [][2]int{{0, 0}, {5, 0}, {7, 6}, {7, 7}} {
			walksPlainly(t, s, user[0], user[1], path)
		}
	}
}

// ladder has links l0 .. l9, each of which leads to the one before, and l0 to the
// target.
func ladder(target string) *planter {
	p := newPlanter()
	p.dir(1, "d")
	p.file(2, "f", "")
	p.link(1, "l0", target)
	for k := 1; k < 10; k++ {
		p.link(1, fmt.Sprint("l", k), fmt.Sprint("l", k-1))
	}
	return p
}

func TestLinksThatLeadToLinks(t *testing.T) {
	s := ladder("d").State
	for k := range 10 {
		path := fmt.Sprint("/l", k)
		want, code := 2, impl.OK
		if k >= 8 {
			want, code = 0, impl.ErrLoop
		}
		walks(t, s, 0, 0, path, true, want, code)
		walks(t, s, 0, 0, path, false, 4+k, impl.OK)
		walks(t, s, 0, 0, path+"/.", false, want, code)
		walksTo(t, s, 0, 0, path, 1, path[1:], impl.OK)
		if code != impl.OK {
			walksTo(t, s, 0, 0, path+"/f", 0, "", code)
			walks(t, s, 0, 0, path+"/f", false, 0, code)
			continue
		}
		walksTo(t, s, 0, 0, path+"/f", 2, "f", impl.OK)
		walks(t, s, 0, 0, path+"/f", false, 3, impl.OK)
	}
	// Links are counted over all the walk, wherever they stand.
	for n := range 12 {
		path := strings.Repeat("/l0/..", n)
		want, code := 1, impl.OK
		if n > 8 {
			want, code = 0, impl.ErrLoop
		}
		walks(t, s, 0, 0, path+"/.", false, want, code)
		if n == 8 {
			walks(t, s, 0, 0, path+"/l0", false, 4, impl.OK)
			walks(t, s, 0, 0, path+"/l0", true, 0, impl.ErrLoop)
			walksTo(t, s, 0, 0, path+"/l0", 1, "l0", impl.OK)
			walksTo(t, s, 0, 0, path+"/l0/x", 0, "", impl.ErrLoop)
		}
	}
	// A ninth link isn't looked into.
	long := ladder(strings.Repeat("x", 27)).State
	walks(t, long, 0, 0, "/l7", true, 0, impl.ErrNameLong)
	walks(t, long, 0, 0, "/l8", true, 0, impl.ErrLoop)
}

func TestWhereLinksLead(t *testing.T) {
	many, long := strings.Repeat, strings.Repeat("x", 26)
	for _, c := range []struct {
		target    string
		ino, code int
	}{
		{"f", 3, impl.OK}, {"./f", 3, impl.OK}, {"f/", 3, impl.OK}, {"f//", 3, impl.OK}, {"f/.", 0, impl.ErrNotDir}, {"/d/f", 3, impl.OK},
		{"//d//f", 3, impl.OK}, {"d/f", 0, impl.ErrNoEnt}, {"/f", 0, impl.ErrNoEnt}, {"../d/f", 3, impl.OK}, {"..", 1, impl.OK}, {"../..", 1, impl.OK}, {".", 2, impl.OK},
		{"/", 1, impl.OK}, {many("/", 255), 1, impl.OK}, {"/.", 1, impl.OK}, {"/d", 2, impl.OK}, {"e", 4, impl.OK}, {"e/../f", 3, impl.OK}, {"none", 0, impl.ErrNoEnt}, {"none/..", 0, impl.ErrNoEnt},
		{long, 0, impl.ErrNoEnt}, {long + "x", 0, impl.ErrNameLong}, {"/d/" + long + "x", 0, impl.ErrNameLong}, {"none/" + long + "x", 0, impl.ErrNameLong},
		{many("./", 40), 2, impl.OK}, {many("./", 41), 0, impl.ErrNameLong}, {many("/.", 40), 1, impl.OK}, {many("/.", 41), 0, impl.ErrNameLong}, {many("x/", 127), 0, impl.ErrNameLong},
		{many("../", 39) + "d", 2, impl.OK}, {"/" + many("//d/..", 20), 1, impl.OK}, {"l", 0, impl.ErrLoop}, {"/d/l", 0, impl.ErrLoop}, {"../d/./l/..", 0, impl.ErrLoop},
		{"\xff", 0, impl.ErrNoEnt}, {" f", 0, impl.ErrNoEnt}, {"f ", 0, impl.ErrNoEnt},
	} {
		p := newPlanter()
		p.dir(1, "d")
		p.file(2, "f", "")
		p.dir(2, "e")
		p.link(2, "l", c.target)
		walks(t, p.State, 0, 0, "/d/l", true, c.ino, c.code)
		walks(t, p.State, 0, 0, "/d/l", false, 5, impl.OK)
		walks(t, p.State, 0, 0, "/d/l/", false, 5, impl.OK)
		// A file is no directory, wherever the link to it stands.
		behind := func(path string) (int, int) {
			if c.ino == 3 {
				return 0, impl.ErrNotDir
			}
			if c.code != impl.OK {
				return 0, c.code
			}
			return plainWalk(p.State, 0, 0, path, true)
		}
		for _, rest := range []string{"/.", "/..", "/f", "/d", "/e", "/none", "/../d/f", "/e/.."} {
			ino, code := behind("/d/l" + rest)
			walks(t, p.State, 0, 0, "/d/l"+rest, true, ino, code)
			walks(t, p.State, 0, 0, "/d/l"+rest, false, ino, code)
			walksPlainly(t, p.State, 0, 0, "/d/l"+rest)
		}
	}
}

// All names of a path and of the links in it may be as many as the rule allows for
// each of them.
func TestLongWalks(t *testing.T) {
	p := newPlanter()
	p.dir(1, "d")
	p.link(2, "l", strings.Repeat("./", 39)+"m")
	p.link(2, "m", strings.Repeat("../d/", 19)+"n/")
	p.link(2, "n", "/"+strings.Repeat(".//", 38)+"d")
	p.file(2, "f", "")
	walks(t, p.State, 0, 0, "/d/l"+strings.Repeat("/.", 37)+"/f", true, 6, impl.OK)
	walks(t, p.State, 0, 0, "/d/l/l"+strings.Repeat("/.", 36)+"/f", true, 6, impl.OK)
	walks(t, p.State, 0, 0, "/d/l/l/l/f", true, 0, impl.ErrLoop)
	walksTo(t, p.State, 0, 0, "/d/l/l"+strings.Repeat("/.", 36)+"/f", 2, "f", impl.OK)
	deep := chainOf(60, "d")
	deep.link(1, "half", strings.Repeat("d/", 40))
	walks(t, deep.State, 0, 0, strings.Repeat("/d", 40), true, 41, impl.OK)
	walks(t, deep.State, 0, 0, strings.Repeat("/d", 41), true, 0, impl.ErrNameLong)
	walks(t, deep.State, 0, 0, "/half"+strings.Repeat("/d", 20), true, 61, impl.OK)
	walks(t, deep.State, 0, 0, "/half"+strings.Repeat("/d", 21), true, 0, impl.ErrNoEnt)
	walks(t, deep.State, 0, 0, "/half"+strings.Repeat("/..", 39), true, 2, impl.OK)
}

func TestWhoMaySearch(t *testing.T) {
	users := [][2]int{{0, 0}, {5, 6}, {5, 9}, {9, 6}, {9, 9}, {6, 5}, {-1, -1}}
	for mode := range 0o1000 {
		p := example()
		p.own(2, mode, 5, 6)
		p.own(1, mode>>3&0o111|mode, 5, 6)
		for _, user := range users[:1+mode%len(users)] {
			for _, path := range []string{"/", "/.", "/d", "/d/.", "/d/..", "/d/f", "/l", "/d/none", "/none"} {
				walksPlainly(t, p.State, user[0], user[1], path)
			}
		}
	}
	p := example()
	for _, c := range []struct {
		mode, uid, gid int
		code           int
	}{
		{0o000, 0, 0, impl.OK}, {0o666, 0, 9, impl.OK}, {0o100, 5, 9, impl.OK}, {0o677, 5, 6, impl.ErrAccess}, {0o010, 9, 6, impl.OK},
		{0o767, 9, 6, impl.ErrAccess}, {0o001, 9, 9, impl.OK}, {0o776, 9, 9, impl.ErrAccess}, {0o111, 9, 9, impl.OK}, {0o666, 5, 6, impl.ErrAccess},
	} {
		p.own(2, c.mode, 5, 6)
		ino, dir, name, last := 0, 0, "", 0
		if c.code == impl.OK {
			ino, dir, name, last = 3, 2, "new", 2
		}
		walks(t, p.State, c.uid, c.gid, "/d/f", true, ino, c.code)
		walks(t, p.State, c.uid, c.gid, "/l", true, ino, c.code)
		walks(t, p.State, c.uid, c.gid, "/d/.", true, last, c.code)
		walks(t, p.State, c.uid, c.gid, "/d", true, 2, impl.OK)
		walksTo(t, p.State, c.uid, c.gid, "/d/new", dir, name, c.code)
		walksTo(t, p.State, c.uid, c.gid, "/d", 1, "d", impl.OK)
		if c.code != impl.OK {
			// What may not be searched isn't left by .. either, and what isn't
			// there isn't told.
			walks(t, p.State, c.uid, c.gid, "/d/..", true, 0, impl.ErrAccess)
			walks(t, p.State, c.uid, c.gid, "/d/none", true, 0, impl.ErrAccess)
		}
	}
	// The modes of files and links are not asked for walking, nor is that of the
	// node at the end.
	p = example()
	p.own(3, 0, 5, 6)
	p.own(4, 0, 5, 6)
	walks(t, p.State, 9, 9, "/l", true, 3, impl.OK)
	walks(t, p.State, 9, 9, "/l/x", true, 0, impl.ErrNotDir)
	walksTo(t, p.State, 9, 9, "/l/x", 0, "", impl.ErrNotDir)
	p.own(1, 0o600, 5, 6)
	walks(t, p.State, 5, 6, "/", true, 1, impl.OK)
	walks(t, p.State, 5, 6, "/.", true, 0, impl.ErrAccess)
	walksTo(t, p.State, 5, 6, "/x", 0, "", impl.ErrAccess)
}

func TestTheLastName(t *testing.T) {
	p := example()
	p.link(1, "dir", "d")
	p.link(1, "gone", "none")
	long := strings.Repeat("x", 26)
	for _, c := range []struct {
		path string
		ino  int
		name string
		code int
	}{
		{"", 0, "", impl.ErrInval}, {"x", 0, "", impl.ErrInval}, {"/x\x00", 0, "", impl.ErrInval}, {strings.Repeat("/", 513), 0, "", impl.ErrNameLong}, {"/" + long + "x", 0, "", impl.ErrNameLong},
		{strings.Repeat("/.", 41), 0, "", impl.ErrNameLong}, {"/", 0, "", impl.ErrBusy}, {strings.Repeat("/", 512), 0, "", impl.ErrBusy},
		{"/.", 0, "", impl.ErrInval}, {"/..", 0, "", impl.ErrInval}, {"/d/.", 0, "", impl.ErrInval}, {"/none/..", 0, "", impl.ErrInval}, {"/d/f/..//", 0, "", impl.ErrInval}, {"/...", 1, "...", impl.OK},
		{"/d", 1, "d", impl.OK}, {"/d/", 1, "d", impl.OK}, {"//x//", 1, "x", impl.OK}, {"/l", 1, "l", impl.OK}, {"/loop", 1, "loop", impl.OK}, {"/gone", 1, "gone", impl.OK},
		{"/d/f", 2, "f", impl.OK}, {"/d/x", 2, "x", impl.OK}, {"/./d/../d/up", 2, "up", impl.OK}, {"/dir/x", 2, "x", impl.OK}, {"/dir/../x", 1, "x", impl.OK}, {"/d/" + long, 2, long, impl.OK},
		{"/d/f/x", 0, "", impl.ErrNotDir}, {"/l/x", 0, "", impl.ErrNotDir}, {"/d/up/x", 0, "", impl.ErrNotDir}, {"/l/x/y", 0, "", impl.ErrNotDir}, {"/none/x", 0, "", impl.ErrNoEnt}, {"/gone/x", 0, "", impl.ErrNoEnt},
		{"/loop/x", 0, "", impl.ErrLoop}, {strings.Repeat("/.", 39) + "/x", 1, "x", impl.OK}, {"/.snapshot", 1, ".snapshot", impl.OK}, {"/.snapshot/x", 0, "", impl.ErrNoEnt},
	} {
		walksTo(t, p.State, 0, 0, c.path, c.ino, c.name, c.code)
		walksPlainly(t, p.State, 0, 0, c.path)
	}
}

func TestWalkingAtRandom(t *testing.T) {
	t.Parallel()
	random := rand.New(rand.NewSource(83))
	seen := map[int]int{}
	for range 1500 {
		p := anyState(random, 4+random.Intn(20))
		if random.Intn(2) == 0 {
			p.own(1, random.Intn(4096), random.Intn(3), random.Intn(3))
		}
		for range 12 {
			path := "/" + someText(random, 6)
			for _, code := range walksPlainly(t, p.State, random.Intn(3), random.Intn(3), path) {
				seen[code]++
			}
		}
	}
	for _, code := range []int{impl.OK, impl.ErrNoEnt, impl.ErrAccess, impl.ErrNotDir, impl.ErrLoop, impl.ErrInval} {
		if seen[code] < 300 {
			t.Errorf("code %d only %d times", code, seen[code])
		}
	}
}

// plainList tells the paths by sorting names at each directory.
func plainList(s impl.State, number int, path string) []impl.Found {
	entries := plainEntries(s.Nodes[number])
	slices.SortFunc(entries, func(a, b impl.Dirent) int { return bytes.Compare([]byte(a.Name), []byte(b.Name)) })
	list := []impl.Found{}
	for _, e := range entries {
		list = append(list, impl.Found{Path: path + "/" + e.Name, Ino: e.Ino})
		if e.Kind == 2 {
			list = append(list, plainList(s, e.Ino, path+"/"+e.Name)...)
		}
	}
	return list
}

// listsPlainly also walks each path that is told, where it is short enough.
func listsPlainly(t *testing.T, name string, s impl.State, want []impl.Found) {
	t.Helper()
	before := copyOf(s)
	list, code := impl.ListTree(s)
	if code != impl.OK || !slices.Equal(list, want) {
		t.Errorf("%s: %.300v, code %d, want %.300v", name, list, code, want)
	}
	for k, f := range list {
		if len(f.Path) <= 512 && strings.Count(f.Path, "/") <= 40 && (len(list) < 50 || k%97 == 0) {
			walks(t, s, 0, 0, f.Path, false, f.Ino, impl.OK)
		}
	}
	clear(list)
	if again, _ := impl.ListTree(s); !slices.Equal(again, want) {
		t.Errorf("%s: two answers share memory", name)
	}
	if !sameState(s, before) {
		t.Errorf("%s: the argument has been changed", name)
	}
}

func TestListTree(t *testing.T) {
	listsPlainly(t, "example", example().State, []impl.Found{{Path: "/d", Ino: 2}, {Path: "/d/f", Ino: 3}, {Path: "/d/up", Ino: 6}, {Path: "/l", Ino: 4}, {Path: "/loop", Ino: 5}})

	// Names rise in each directory, not paths: a byte may be less than a slash.
	p := newPlanter()
	p.file(1, "a.", "")
	p.dir(1, "a")
	p.file(3, "z", "")
	p.file(1, "a\x01", "")
	p.file(1, "\xff", "")
	p.file(1, "B", "")
	p.file(1, "ä", "")
	p.again(3, "b", 7)
	listsPlainly(t, "bytes below the slash", p.State, []impl.Found{{Path: "/B", Ino: 7}, {Path: "/a", Ino: 3}, {Path: "/a/b", Ino: 7}, {Path: "/a/z", Ino: 4},
		{Path: "/a\x01", Ino: 5}, {Path: "/a.", Ino: 2}, {Path: "/ä", Ino: 8}, {Path: "/\xff", Ino: 6}})

	// A link to a directory is told, but not what is there.
	p = newPlanter()
	p.dir(1, "d")
	p.link(1, "l", "d")
	p.file(2, ".snapshot", "")
	p.dir(2, "empty")
	listsPlainly(t, "a link to a directory", p.State, []impl.Found{{Path: "/d", Ino: 2}, {Path: "/d/.snapshot", Ino: 4}, {Path: "/d/empty", Ino: 5}, {Path: "/l", Ino: 3}})

	star := starOf(998).State
	listsPlainly(t, "many directories", star, plainList(star, 1, ""))
	chain := chainOf(999, strings.Repeat("y", 26)).State
	listsPlainly(t, "a deep chain", chain, plainList(chain, 1, ""))
	closed := example()
	closed.own(1, 0, 5, 6)
	closed.own(2, 0, 5, 6)
	listsPlainly(t, "modes do not matter", closed.State, plainList(closed.State, 1, ""))
}

func TestListTreeAtRandom(t *testing.T) {
	random := rand.New(rand.NewSource(84))
	for round := range 600 {
		p := anyState(random, random.Intn(40))
		for k := range p.Nodes {
			if p.Nodes[k].Kind == 1 && random.Intn(2) == 0 {
				p.again(1, numberedName(k), k)
			}
		}
		listsPlainly(t, fmt.Sprint("round ", round), p.State, plainList(p.State, 1, ""))
	}
}
