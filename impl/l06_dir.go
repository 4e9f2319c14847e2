package impl

import (
	"iter"
	"maps"
	"slices"
	"strings"
)

// MaxName bounds the bytes of a name.
const MaxName = 26

// Dirent is an entry of a directory.
type Dirent struct {
	Name      string
	Ino, Kind int
}

// A slot is what an entry takes of a directory's bytes: its numbers and a name of
// any length that is allowed.
const (
	slotBytes     = 6 + MaxName
	slotsPerBlock = BlockSize / slotBytes
)

// slotBlock are the entries of a directory's block; one that is zero is an empty
// slot.
type slotBlock [slotsPerBlock]Dirent

// CheckName looks at a name, see chapter 7.
func CheckName(name string) int {
	if name == "" || name == "." || name == ".." {
		return ErrInval
	}
	if len(name) > MaxName {
		return ErrNameLong
	}
	for _, letter := range name {
		if letter == '/' || letter == 0 {
			return ErrInval
		}
	}
	return OK
}

// direntFault is what is wrong with an entry beside its name.
func direntFault(d Dirent, code int) error {
	c := check{code: code}
	c.within("Ino", d.Ino, 1, MaxInodes)
	c.within("Kind", d.Kind, KindFile, KindLink)
	return c.err
}

func laySlot(out []byte, d Dirent) []byte {
	end := len(out) + slotBytes
	out = lay(out, uint32(d.Ino))
	out = lay(out, uint8(d.Kind))
	out = lay(out, uint8(len(d.Name)))
	out = append(out, d.Name...)
	return layZeros(out, end)
}

// readSlot reads an entry; that of an empty slot is zero.
func readSlot(b []byte) (Dirent, error) {
	r := newReader(b)
	var d Dirent
	d.Ino = number[uint32](r)
	d.Kind = number[uint8](r)
	d.Name = string(r.take(number[uint8](r)))
	r.end(slotBytes)
	if d != (Dirent{}) {
		r.inside("entry", direntFault(d, r.code))
		r.need("name", CheckName(d.Name) == OK)
	}
	return d, r.err
}

// directory is a directory inside of an operation: the entries by slot, and the
// slots by name.
type directory struct {
	entries []Dirent
	slots   map[string]int
}

func openDirectory(content []byte) (*directory, error) {
	c := check{code: ErrCorrupt}
	c.need("length", len(content)%BlockSize == 0 && len(content) <= MaxFile)
	if c.err != nil {
		return nil, c.err
	}
	d := &directory{slots: make(map[string]int, len(content)/slotBytes)}
	for part := range slices.Chunk(content, slotBytes) {
		entry, err := readSlot(part)
		c.inside("slot", err)
		_, twice := d.slots[entry.Name]
		c.need("name twice", !twice)
		if c.err != nil {
			return nil, c.err
		}
		d.append(entry)
	}
	c.need("last block", !d.endsEmpty())
	return d, c.err
}

// append makes a slot behind the others; an empty one has no name to be found by.
func (d *directory) append(entry Dirent) {
	d.entries = append(d.entries, Dirent{})
	if entry != (Dirent{}) {
		d.put(len(d.entries)-1, entry)
	}
}

func (d *directory) put(slot int, entry Dirent) {
	d.entries[slot] = entry
	d.slots[entry.Name] = slot
}

// endsEmpty says whether there is a last block and nothing in it.
func (d *directory) endsEmpty() bool {
	rest := len(d.entries) - slotsPerBlock
	return rest >= 0 && slotBlock(d.entries[rest:]) == slotBlock{}
}

// find tells the entry of a name, and whether there is one.
func (d *directory) find(name string) (Dirent, bool) {
	slot, found := d.slots[name]
	if !found {
		return Dirent{}, false
	}
	return d.entries[slot], true
}

// all tells the entries by slot, without the empty ones.
func (d *directory) all() iter.Seq[Dirent] {
	return func(yield func(Dirent) bool) {
		for _, entry := range d.entries {
			if entry != (Dirent{}) && !yield(entry) {
				return
			}
		}
	}
}

// copied is a directory that can be changed without this one.
func (d *directory) copied() *directory {
	return &directory{entries: slices.Clone(d.entries), slots: maps.Clone(d.slots)}
}

// add puts an entry, whose name isn't there, into the first empty slot; it answers
// whether the directory had one or could grow.
func (d *directory) add(entry Dirent) bool {
	slot := slices.Index(d.entries, Dirent{})
	if slot < 0 {
		slot = len(d.entries)
		if slot*slotBytes >= MaxFile {
			return false
		}
		var empty slotBlock
		d.entries = append(d.entries, empty[:]...)
	}
	d.put(slot, entry)
	return true
}

// replace puts an entry, whose name is there, into the slot of that name.
func (d *directory) replace(entry Dirent) {
	d.put(d.slots[entry.Name], entry)
}

// remove takes a name that is there away, and the blocks at the end that have no
// entry left.
func (d *directory) remove(name string) {
	d.entries[d.slots[name]] = Dirent{}
	delete(d.slots, name)
	for d.endsEmpty() {
		d.entries = d.entries[:len(d.entries)-slotsPerBlock]
	}
}

func (d *directory) bytes() []byte {
	out := make([]byte, 0, len(d.entries)*slotBytes)
	for _, entry := range d.entries {
		out = laySlot(out, entry)
	}
	return out
}

// list tells the entries, sorted, since a map has no order of its own.
func (d *directory) list() []Dirent {
	list := make([]Dirent, 0, len(d.slots))
	for _, slot := range d.slots {
		list = append(list, d.entries[slot])
	}
	slices.SortFunc(list, func(a, b Dirent) int { return strings.Compare(a.Name, b.Name) })
	return list
}

// DirCheck looks at the bytes of a directory, see chapter 7.
func DirCheck(content []byte) int {
	_, err := openDirectory(content)
	return codeOf(err)
}

// DirFind finds a name: slot, entry, code; see chapter 7.
func DirFind(content []byte, name string) (int, Dirent, int) {
	d, err := openDirectory(content)
	if err != nil {
		return 0, Dirent{}, codeOf(err)
	}
	slot, found := d.slots[name]
	if !found {
		return 0, Dirent{}, ErrNoEnt
	}
	return slot, d.entries[slot], OK
}

// DirAdd puts an entry in, see chapter 7.
func DirAdd(content []byte, d Dirent) ([]byte, int) {
	dir, err := openDirectory(content)
	if err != nil {
		return nil, codeOf(err)
	}
	if code := CheckName(d.Name); code != OK {
		return nil, code
	}
	if err := direntFault(d, ErrInval); err != nil {
		return nil, codeOf(err)
	}
	if _, found := dir.slots[d.Name]; found {
		return nil, ErrExist
	}
	if !dir.add(d) {
		return nil, ErrFbig
	}
	return dir.bytes(), OK
}

// DirRemove takes an entry out, see chapter 7.
func DirRemove(content []byte, name string) ([]byte, int) {
	d, err := openDirectory(content)
	if err != nil {
		return nil, codeOf(err)
	}
	if _, found := d.slots[name]; !found {
		return nil, ErrNoEnt
	}
	d.remove(name)
	return d.bytes(), OK
}

// DirList tells the entries, names rising; see chapter 7.
func DirList(content []byte) ([]Dirent, int) {
	d, err := openDirectory(content)
	if err != nil {
		return nil, codeOf(err)
	}
	return d.list(), OK
}
