package impl

import (
	"cmp"
	"iter"
	"slices"
	"sort"
)

// IdMax is the greatest number of a version.
const IdMax = 9999

// Ver is a version: its number, and its text, or that it is gone.
type Ver struct {
	Id   int
	Text string
	Gone bool
}

// Obj is a key's versions.
type Obj struct {
	Key  string
	Vers []Ver
}

// Vmap is keys with versions.
type Vmap struct {
	Objs []Obj
}

// ranked is an element of an ordered map; it is found by its rank.
type ranked[K cmp.Ordered] interface {
	rank() K
}

// ordered is a map kept as a slice. Its methods that search rely on ascends.
type ordered[K cmp.Ordered, E ranked[K]] []E

func (o ordered[K, E]) all() iter.Seq2[K, E] {
	return func(yield func(K, E) bool) {
		for _, e := range o {
			if !yield(e.rank(), e) {
				return
			}
		}
	}
}

func (o ordered[K, E]) ascends() bool {
	for i := 1; i < len(o); i++ {
		if o[i-1].rank() >= o[i].rank() {
			return false
		}
	}
	return true
}

// upTo is how many elements have at most that rank.
func (o ordered[K, E]) upTo(rank K) int {
	return sort.Search(len(o), func(i int) bool { return o[i].rank() > rank })
}

// latest is the last element that has at most that rank.
func (o ordered[K, E]) latest(rank K) (E, bool) {
	n := o.upTo(rank)
	if n == 0 {
		var none E
		return none, false
	}
	return o[n-1], true
}

func (o ordered[K, E]) get(rank K) (E, bool) {
	e, ok := o.latest(rank)
	if !ok || e.rank() != rank {
		var none E
		return none, false
	}
	return e, true
}

// with is a new slice that has e at its place, instead of an element of the same rank.
func (o ordered[K, E]) with(e E) ordered[K, E] {
	rest := o.upTo(e.rank())
	first := rest
	if _, ok := o.get(e.rank()); ok {
		first--
	}
	return slices.Concat(o[:first], ordered[K, E]{e}, o[rest:])
}

func idOk(id int) bool { return 1 <= id && id <= IdMax }

// zeroOrId holds for the Id of a version, or for 0 where there is none.
func zeroOrId(id int) bool { return id == 0 || idOk(id) }

func (v Ver) rank() int { return v.Id }

func (v Ver) valid() bool {
	return idOk(v.Id) && TextOk(v.Text) && (!v.Gone || v.Text == "")
}

func (o Obj) rank() string { return o.Key }

func (o Obj) vers() ordered[int, Ver] { return o.Vers }

func (o Obj) valid() bool {
	for _, v := range o.vers().all() {
		if !v.valid() {
			return false
		}
	}
	return KeyOk(o.Key) && len(o.Vers) > 0 && o.vers().ascends()
}

// from is the object without its first n versions.
func (o Obj) from(n int) Obj {
	return Obj{Key: o.Key, Vers: slices.Clone(o.Vers[n:])}
}

// visible is the version that a read at id finds.
func (o Obj) visible(id int) (Ver, bool) {
	v, ok := o.vers().latest(id)
	if !ok || v.Gone {
		return Ver{}, false
	}
	return v, true
}

// unread is how many versions no read at id or later returns.
func (o Obj) unread(id int) int {
	n := o.vers().upTo(id)
	if n > 0 && !o.Vers[n-1].Gone {
		n--
	}
	return n
}

func (m Vmap) objs() ordered[string, Obj] { return m.Objs }

func (m Vmap) within(r Span) Vmap {
	var out Vmap
	for key, obj := range m.objs().all() {
		if r.has(key) {
			out.Objs = append(out.Objs, obj.from(0))
		}
	}
	return out
}

func (m Vmap) copied() Vmap { return m.within(Span{}) }

func (m Vmap) inside(r Span) bool {
	for key := range m.objs().all() {
		if !r.has(key) {
			return false
		}
	}
	return true
}

// latest is a key's latest version up to id, tombstone or not.
func (m Vmap) latest(key string, id int) (Ver, bool) {
	obj, _ := m.objs().get(key)
	return obj.vers().latest(id)
}

// add puts a version into a valid map that belongs to the caller. It changes nothing if the map would not be valid then.
func (m *Vmap) add(key string, v Ver) bool {
	obj, _ := m.objs().get(key)
	last, _ := obj.vers().latest(IdMax)
	if !KeyOk(key) || !v.valid() || v.Id <= last.Id {
		return false
	}
	m.Objs = m.objs().with(Obj{Key: key, Vers: append(obj.Vers, v)})
	return true
}

// VmapOk says whether a map is ok.
func VmapOk(m Vmap) bool {
	for _, obj := range m.objs().all() {
		if !obj.valid() {
			return false
		}
	}
	return m.objs().ascends()
}

// VmapPut is a map with one more version.
func VmapPut(m Vmap, key string, v Ver) (Vmap, bool) {
	if !VmapOk(m) {
		return Vmap{}, false
	}
	out := m.copied()
	ok := out.add(key, v)
	return out, ok
}

// VmapGet is a key's newest version.
func VmapGet(m Vmap, key string) (Ver, bool) {
	return VmapAt(m, key, IdMax)
}

// VmapAt is a key's newest version that is no later.
func VmapAt(m Vmap, key string, id int) (Ver, bool) {
	if !VmapOk(m) || !KeyOk(key) {
		return Ver{}, false
	}
	obj, _ := m.objs().get(key)
	return obj.visible(id)
}

// VmapCut is the keys of a span.
func VmapCut(m Vmap, r Span) Vmap {
	if !VmapOk(m) || !SpanOk(r) {
		return Vmap{}
	}
	return m.within(r)
}

// VmapJoin is two maps, one behind the other.
func VmapJoin(a Vmap, b Vmap) (Vmap, bool) {
	joined := Vmap{Objs: slices.Concat(a.copied().Objs, b.copied().Objs)}
	// This looks at a and b too: what makes one of them invalid is in the joined map as well.
	if !VmapOk(joined) {
		return Vmap{}, false
	}
	return joined, true
}

// VmapPrune is a map without old versions.
func VmapPrune(m Vmap, id int) Vmap {
	if !VmapOk(m) {
		return Vmap{}
	}
	var out Vmap
	for _, obj := range m.objs().all() {
		if n := obj.unread(id); n < len(obj.Vers) {
			out.Objs = append(out.Objs, obj.from(n))
		}
	}
	return out
}
