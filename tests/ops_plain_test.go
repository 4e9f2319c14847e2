package tests

import (
	"bytes"
	"slices"
	"strings"

	"loop.example/s02533/impl"
)

// clerk does one operation as chapter 9 says, sentence by sentence, on a copy of
// the state. What it has changed counts only if nothing refuses the operation.
type clerk struct {
	s    impl.State
	op   impl.Op
	now  int
	idle bool
	ans  impl.Ans
}

func plainSize(s impl.State) int {
	size := 0
	for _, n := range s.Nodes {
		size += len(n.Data)
	}
	return size
}

func plainApply(s impl.State, op impl.Op) (impl.State, impl.Ans) {
	if !plainState(s) {
		return impl.State{}, impl.Ans{Code: impl.ErrCorrupt}
	}
	c := &clerk{s: copyOf(s), op: op, now: s.Clock + 1}
	code := c.do()
	if code == 0 && op.Kind <= 11 && !c.idle {
		code = c.end(s)
	}
	if code != 0 {
		return copyOf(s), impl.Ans{Code: code}
	}
	return c.s, c.ans
}

// end is what is said of all kinds that change the state.
func (c *clerk) end(before impl.State) int {
	if before.Clock == 1<<40 {
		return impl.ErrRange
	}
	c.s.Clock++
	if size := plainSize(c.s); size > 1048576 && size > plainSize(before) {
		return impl.ErrQuota
	}
	for len(c.s.Nodes) > 2 && zeroNode(c.s.Nodes[len(c.s.Nodes)-1]) {
		c.s.Nodes = c.s.Nodes[:len(c.s.Nodes)-1]
	}
	return 0
}

func (c *clerk) do() int {
	if c.op.Kind < 1 || c.op.Kind > 17 {
		return impl.ErrKind
	}
	if c.op.Uid < 0 || c.op.Uid > 65535 || c.op.Gid < 0 || c.op.Gid > 65535 {
		return impl.ErrInval
	}
	switch c.op.Kind {
	case impl.OpMkdir, impl.OpCreate, impl.OpSymlink:
		return c.grow()
	case impl.OpLink:
		return c.link()
	case impl.OpUnlink, impl.OpRmdir:
		return c.takeAway()
	case impl.OpRename:
		return c.rename()
	case impl.OpWrite, impl.OpTruncate, impl.OpRead, impl.OpSeek:
		return c.bytes()
	case impl.OpChmod, impl.OpChown:
		return c.chmodChown()
	default:
		return c.ask()
	}
}

func (c *clerk) may(number, want int) bool {
	return plainAccess(c.s.Nodes[number], c.op.Uid, c.op.Gid, want)
}

// changes is what "the directory changes" means.
func (c *clerk) changes(number int) {
	c.s.Nodes[number].Mtime, c.s.Nodes[number].Ctime = c.now, c.now
}

// slotWith is the place of the slot with this name, or -1.
func slotWith(data []byte, name string) int {
	slots, _ := plainlyRight(data)
	return slices.IndexFunc(slots, func(d impl.Dirent) bool { return d.Name == name && name != "" })
}

func (c *clerk) entry(dir int, name string) (impl.Dirent, bool) {
	slots, _ := plainlyRight(c.s.Nodes[dir].Data)
	at := slotWith(c.s.Nodes[dir].Data, name)
	if at < 0 {
		return impl.Dirent{}, false
	}
	return slots[at], true
}

// add is DirAdd; it answers whether the directory can have the entry.
func (c *clerk) add(dir int, name string, ino, kind int) bool {
	data := c.s.Nodes[dir].Data
	slots, _ := plainlyRight(data)
	at := slices.Index(slots, impl.Dirent{})
	if at < 0 {
		if len(data) == 262144 {
			return false
		}
		at = len(slots)
		data = append(data, make([]byte, 512)...)
	}
	copy(data[32*at:], slotOf(name, ino, kind))
	c.s.Nodes[dir].Data = data
	return true
}

// remove is DirRemove.
func (c *clerk) remove(dir int, name string) {
	data := c.s.Nodes[dir].Data
	clear(data[32*slotWith(data, name):][:32])
	for len(data) > 0 && len(bytes.Trim(data[len(data)-512:], "\x00")) == 0 {
		data = data[:len(data)-512]
	}
	c.s.Nodes[dir].Data = data
}

// asNew is what Create and Link say of a directory and a name that isn't there.
func (c *clerk) asNew(dir int, name string) int {
	if _, there := c.entry(dir, name); there {
		return impl.ErrExist
	}
	if dir == 1 && name == ".snapshot" {
		return impl.ErrRofs
	}
	if !c.may(dir, 2) {
		return impl.ErrAccess
	}
	return 0
}

func (c *clerk) grow() int {
	made := impl.Node{Kind: 1, Links: 1, Mode: c.op.A, Uid: c.op.Uid, Gid: c.op.Gid, Gen: c.now, Mtime: c.now, Ctime: c.now}
	if c.op.Kind == impl.OpSymlink {
		if len(c.op.Path2) < 1 || len(c.op.Path2) > 255 || strings.Contains(c.op.Path2, "\x00") {
			return impl.ErrInval
		}
		made.Kind, made.Mode, made.Data = 3, 511, []byte(c.op.Path2)
	} else if c.op.A < 0 || c.op.A > 4095 {
		return impl.ErrInval
	}
	dir, name, code := plainWalkDir(c.s, c.op.Uid, c.op.Gid, c.op.Path)
	if code == 0 {
		code = c.asNew(dir, name)
	}
	if code != 0 {
		return code
	}
	if c.op.Kind == impl.OpMkdir {
		if c.s.Nodes[dir].Links == 1000 {
			return impl.ErrMlink
		}
		made.Kind, made.Links, made.Parent = 2, 2, dir
	}
	number := 2
	for number < len(c.s.Nodes) && !zeroNode(c.s.Nodes[number]) {
		number++
	}
	if number > 1000 {
		return impl.ErrInodes
	}
	if !c.add(dir, name, number, made.Kind) {
		return impl.ErrFbig
	}
	if number == len(c.s.Nodes) {
		c.s.Nodes = append(c.s.Nodes, impl.Node{})
	}
	c.s.Nodes[number] = made
	c.changes(dir)
	if made.Kind == 2 {
		c.s.Nodes[dir].Links++
	}
	c.ans.N = number
	return 0
}

func (c *clerk) link() int {
	number, code := plainWalk(c.s, c.op.Uid, c.op.Gid, c.op.Path, false)
	if code != 0 {
		return code
	}
	if c.s.Nodes[number].Kind == 2 {
		return impl.ErrPerm
	}
	dir, name, code := plainWalkDir(c.s, c.op.Uid, c.op.Gid, c.op.Path2)
	if code == 0 {
		code = c.asNew(dir, name)
	}
	if code != 0 {
		return code
	}
	if c.s.Nodes[number].Links == 1000 {
		return impl.ErrMlink
	}
	if !c.add(dir, name, number, c.s.Nodes[number].Kind) {
		return impl.ErrFbig
	}
	c.s.Nodes[number].Links++
	c.s.Nodes[number].Ctime = c.now
	c.changes(dir)
	return 0
}

// sticky says whether it forbids to take a node's entry out of a directory.
func (c *clerk) sticky(dir, number int) bool {
	if c.s.Nodes[dir].Mode&512 == 0 {
		return false
	}
	return c.op.Uid != 0 && c.op.Uid != c.s.Nodes[dir].Uid && c.op.Uid != c.s.Nodes[number].Uid
}

// lose is what happens to a node that loses a name.
func (c *clerk) lose(number int) {
	n := &c.s.Nodes[number]
	n.Links, n.Ctime = n.Links-1, c.now
	if n.Links == 0 || n.Kind == 2 {
		*n = impl.Node{}
	}
}

func (c *clerk) takeAway() int {
	dir, name, code := plainWalkDir(c.s, c.op.Uid, c.op.Gid, c.op.Path)
	if code != 0 {
		return code
	}
	e, there := c.entry(dir, name)
	if !there {
		return impl.ErrNoEnt
	}
	if !c.may(dir, 2) {
		return impl.ErrAccess
	}
	if c.sticky(dir, e.Ino) {
		return impl.ErrPerm
	}
	if c.op.Kind == impl.OpUnlink && e.Kind == 2 {
		return impl.ErrIsDir
	}
	if c.op.Kind == impl.OpRmdir {
		if e.Kind != 2 {
			return impl.ErrNotDir
		}
		if len(plainEntries(c.s.Nodes[e.Ino])) > 0 {
			return impl.ErrNotEmpty
		}
		c.s.Nodes[dir].Links--
	}
	c.remove(dir, name)
	c.changes(dir)
	c.lose(e.Ino)
	return 0
}

// below says whether a directory is another or lies below it.
func (c *clerk) below(number, other int) bool {
	reached := map[int]bool{}
	plainReach(c.s, other, reached)
	return reached[number]
}

func (c *clerk) rename() int {
	d, a, code := plainWalkDir(c.s, c.op.Uid, c.op.Gid, c.op.Path)
	if code != 0 {
		return code
	}
	e, b, code := plainWalkDir(c.s, c.op.Uid, c.op.Gid, c.op.Path2)
	if code != 0 {
		return code
	}
	from, there := c.entry(d, a)
	if !there {
		return impl.ErrNoEnt
	}
	to, over := c.entry(e, b)
	switch {
	case !c.may(d, 2), !c.may(e, 2):
		return impl.ErrAccess
	case c.sticky(d, from.Ino), over && c.sticky(e, to.Ino):
		return impl.ErrPerm
	case over && to.Ino == from.Ino:
		c.idle = true
		return 0
	case e == 1 && b == ".snapshot":
		return impl.ErrRofs
	case from.Kind == 2 && c.below(e, from.Ino):
		return impl.ErrInval
	case from.Kind == 2 && over && to.Kind != 2:
		return impl.ErrNotDir
	case from.Kind == 2 && over && len(plainEntries(c.s.Nodes[to.Ino])) > 0:
		return impl.ErrNotEmpty
	case from.Kind == 2 && d != e && !c.may(from.Ino, 2):
		return impl.ErrAccess
	case from.Kind == 2 && d != e && !over && c.s.Nodes[e].Links == 1000:
		return impl.ErrMlink
	case from.Kind != 2 && over && to.Kind == 2:
		return impl.ErrIsDir
	}
	if over {
		data := c.s.Nodes[e].Data
		copy(data[32*slotWith(data, b):], slotOf(b, from.Ino, from.Kind))
		c.remove(d, a)
		c.lose(to.Ino)
	} else {
		c.remove(d, a)
		if !c.add(e, b, from.Ino, from.Kind) {
			return impl.ErrFbig
		}
	}
	c.s.Nodes[from.Ino].Ctime = c.now
	if from.Kind == 2 {
		c.s.Nodes[from.Ino].Parent = e
		c.s.Nodes[d].Links--
		if !over {
			c.s.Nodes[e].Links++
		}
	}
	c.changes(d)
	c.changes(e)
	return 0
}

// bytes are the kinds that are about those of a file.
func (c *clerk) bytes() int {
	number, code := plainWalk(c.s, c.op.Uid, c.op.Gid, c.op.Path, true)
	if code != 0 {
		return code
	}
	n := &c.s.Nodes[number]
	if n.Kind == 2 {
		return impl.ErrIsDir
	}
	want := 2
	if c.op.Kind == impl.OpRead || c.op.Kind == impl.OpSeek {
		want = 4
	}
	if !c.may(number, want) {
		return impl.ErrAccess
	}
	switch c.op.Kind {
	case impl.OpWrite:
		return c.write(n)
	case impl.OpTruncate:
		return c.truncate(n)
	case impl.OpRead:
		return c.read(n)
	}
	return c.seek(n)
}

func (c *clerk) write(n *impl.Node) int {
	if c.op.A < 0 || len(c.op.Data) > 4096 {
		return impl.ErrInval
	}
	if c.op.A > 262144-len(c.op.Data) {
		return impl.ErrFbig
	}
	if len(c.op.Data) == 0 {
		c.idle = true
		return 0
	}
	for k, b := range c.op.Data {
		for len(n.Data) <= c.op.A+k {
			n.Data = append(n.Data, 0)
		}
		n.Data[c.op.A+k] = b
	}
	n.Mtime, n.Ctime = c.now, c.now
	c.ans.N = len(c.op.Data)
	return 0
}

func (c *clerk) truncate(n *impl.Node) int {
	if c.op.A < 0 {
		return impl.ErrInval
	}
	if c.op.A > 262144 {
		return impl.ErrFbig
	}
	n.Data = append(n.Data[:min(c.op.A, len(n.Data))], make([]byte, max(0, c.op.A-len(n.Data)))...)
	n.Mtime, n.Ctime = c.now, c.now
	return 0
}

func (c *clerk) read(n *impl.Node) int {
	if c.op.A < 0 || c.op.B < 0 {
		return impl.ErrInval
	}
	for at := c.op.A; at < len(n.Data) && len(c.ans.Data) < c.op.B && len(c.ans.Data) < 4096; at++ {
		c.ans.Data = append(c.ans.Data, n.Data[at])
	}
	c.ans.N = len(c.ans.Data)
	return 0
}

// seek asks of each offset, one after the other, whether it lies in data.
func (c *clerk) seek(n *impl.Node) int {
	if c.op.B != 0 && c.op.B != 1 || c.op.A < 0 || c.op.A > len(n.Data)-1 {
		return impl.ErrInval
	}
	at := c.op.A
	for ; at < len(n.Data); at++ {
		first := at / 512 * 512
		block := n.Data[first:min(first+512, len(n.Data))]
		data := len(bytes.Trim(block, "\x00")) > 0
		if data == (c.op.B == 0) {
			break
		}
	}
	if c.op.B == 0 && at == len(n.Data) {
		return impl.ErrNoEnt
	}
	c.ans.N = at
	return 0
}

func (c *clerk) chmodChown() int {
	chmod := c.op.Kind == impl.OpChmod
	if chmod && (c.op.A < 0 || c.op.A > 4095) {
		return impl.ErrInval
	}
	if !chmod && (c.op.A < 0 || c.op.A > 65535 || c.op.B < 0 || c.op.B > 65535) {
		return impl.ErrInval
	}
	number, code := plainWalk(c.s, c.op.Uid, c.op.Gid, c.op.Path, chmod)
	if code != 0 {
		return code
	}
	n := &c.s.Nodes[number]
	if c.op.Uid != 0 && !(chmod && c.op.Uid == n.Uid) {
		return impl.ErrPerm
	}
	n.Ctime = c.now
	if chmod {
		n.Mode = c.op.A
	} else {
		n.Uid, n.Gid = c.op.A, c.op.B
	}
	return 0
}

// ask are the kinds that tell of a node beside the bytes of a file.
func (c *clerk) ask() int {
	follow := c.op.Kind == impl.OpStat || c.op.Kind == impl.OpList
	number, code := plainWalk(c.s, c.op.Uid, c.op.Gid, c.op.Path, follow)
	if code != 0 {
		return code
	}
	n := c.s.Nodes[number]
	switch c.op.Kind {
	case impl.OpReadlink:
		if n.Kind != 3 {
			return impl.ErrInval
		}
		c.ans.Data, c.ans.N = bytes.Clone(n.Data), len(n.Data)
	case impl.OpList:
		if n.Kind != 2 {
			return impl.ErrNotDir
		}
		if !c.may(number, 4) {
			return impl.ErrAccess
		}
		c.ans.Names = plainEntries(n)
		slices.SortFunc(c.ans.Names, func(a, b impl.Dirent) int { return bytes.Compare([]byte(a.Name), []byte(b.Name)) })
		c.ans.N = len(c.ans.Names)
	default:
		c.ans.Stat = impl.Stat{Ino: number, Kind: n.Kind, Links: n.Links, Mode: n.Mode, Uid: n.Uid, Gid: n.Gid, Size: len(n.Data), Gen: n.Gen, Mtime: n.Mtime, Ctime: n.Ctime}
	}
	return 0
}
