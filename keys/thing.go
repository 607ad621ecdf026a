package keys

import (
	"cmp"
	"maps"
	"slices"
	"strings"

	"tabor/api"
)

// thing is what stands under a key. One that two keyspaces share is never changed, but laid anew.
type thing struct {
	kind     api.ThingKind
	text     string
	pairs    []api.Pair
	room     []string // a list's, a set's items, from first on; ahead of it there is room for more
	first    int
	ranks    []api.Rank
	scores   map[string]int64
	hasUntil bool
	until    int64
	shared   bool
}

// items tells a list's or a set's items.
func (t *thing) items() []string { return t.room[t.first:] }

// gone tells whether a thing is gone at a time.
func (t *thing) gone(now int64) bool { return t.hasUntil && t.until <= now }

// own tells a thing that may be changed.
func (t *thing) own() *thing {
	if !t.shared {
		return t
	}
	return &thing{
		kind: t.kind, text: t.text, pairs: slices.Clone(t.pairs), room: slices.Clone(t.items()),
		ranks: slices.Clone(t.ranks), scores: maps.Clone(t.scores), hasUntil: t.hasUntil, until: t.until,
	}
}

// told tells a thing in memory of its own.
func (t *thing) told() api.Thing {
	return api.Thing{
		Kind: t.kind, Text: t.text, Pairs: slices.Clone(t.pairs), List: slices.Clone(t.items()),
		Ranks: slices.Clone(t.ranks), HasUntil: t.hasUntil, Until: t.until,
	}
}

// of is the thing that is told so.
func of(t api.Thing) *thing {
	out := &thing{
		kind: t.Kind, text: t.Text, pairs: slices.Clone(t.Pairs), room: slices.Clone(t.List),
		ranks: slices.Clone(t.Ranks), hasUntil: t.HasUntil, until: t.Until,
	}
	if t.Kind == api.ThingRanks {
		out.scores = map[string]int64{}
		for _, m := range t.Ranks {
			out.scores[m.Name] = m.Score
		}
	}
	return out
}

// same tells whether two things are the same.
func (t *thing) same(o *thing) bool {
	return t.kind == o.kind && t.text == o.text && t.hasUntil == o.hasUntil && t.until == o.until &&
		slices.Equal(t.pairs, o.pairs) && slices.Equal(t.items(), o.items()) && slices.Equal(t.ranks, o.ranks)
}

// nothing tells whether a thing has become empty.
func (t *thing) nothing() bool {
	return t.kind != api.ThingText && len(t.pairs)+len(t.items())+len(t.ranks) == 0
}

// empty lets nothing be left.
func (t *thing) empty(api.Effect) { *t = thing{} }

// become lets it be a text.
func (t *thing) become(e api.Effect) { *t = thing{kind: api.ThingText, text: e.Text} }

// end gives it a time.
func (t *thing) end(e api.Effect) { t.hasUntil, t.until = true, e.Int }

// keep takes its time away.
func (t *thing) keep(api.Effect) { t.hasUntil, t.until = false, 0 }

// full is the answer whether there is room, of one that is there or not.
func full(there bool, n int) api.Errno {
	if !there && n >= api.MaxItems {
		return api.ErrLong
	}
	return api.OK
}

// wanted is the answer whether one is there.
func wanted(there bool) api.Errno {
	if !there {
		return api.ErrNone
	}
	return api.OK
}

// field finds a field's place.
func (t *thing) field(name string) (int, bool) {
	return slices.BinarySearchFunc(t.pairs, name, func(p api.Pair, s string) int { return strings.Compare(p.Name, s) })
}

func (t *thing) roomField(e api.Effect) api.Errno {
	_, ok := t.field(e.Name)
	return full(ok, len(t.pairs))
}

func (t *thing) hasField(e api.Effect) api.Errno {
	_, ok := t.field(e.Name)
	return wanted(ok)
}

func (t *thing) putField(e api.Effect) {
	i, ok := t.field(e.Name)
	if !ok {
		t.pairs = slices.Insert(t.pairs, i, api.Pair{})
	}
	t.pairs[i] = api.Pair{Name: e.Name, Text: e.Text}
}

func (t *thing) dropField(e api.Effect) {
	i, _ := t.field(e.Name)
	t.pairs = slices.Delete(t.pairs, i, i+1)
}

func (t *thing) roomItem(api.Effect) api.Errno { return full(false, len(t.items())) }

func (t *thing) hasItem(e api.Effect) api.Errno {
	if e.Int < 0 || e.Int >= int64(len(t.items())) {
		return api.ErrRange
	}
	return api.OK
}

func (t *thing) putItem(e api.Effect) { t.items()[e.Int] = e.Text }

func (t *thing) putTail(e api.Effect) { t.room = append(t.room, e.Text) }

// putHead puts an item ahead; where there is no room, as much is made as there are items.
func (t *thing) putHead(e api.Effect) {
	if t.first == 0 {
		t.first = len(t.room) + 1
		t.room = append(make([]string, t.first, 2*t.first), t.room...)
	}
	t.first--
	t.room[t.first] = e.Text
}

// dropHead leaves room ahead, but never more than there are items.
func (t *thing) dropHead(api.Effect) {
	t.room[t.first] = ""
	t.first++
	if t.first > len(t.items())+8 {
		t.room, t.first = slices.Clone(t.items()), 0
	}
}

func (t *thing) dropTail(api.Effect) {
	t.room[len(t.room)-1] = ""
	t.room = t.room[:len(t.room)-1]
}

func (t *thing) roomMember(e api.Effect) api.Errno {
	_, ok := slices.BinarySearch(t.room, e.Name)
	return full(ok, len(t.room))
}

func (t *thing) hasMember(e api.Effect) api.Errno {
	_, ok := slices.BinarySearch(t.room, e.Name)
	return wanted(ok)
}

func (t *thing) putMember(e api.Effect) {
	if i, ok := slices.BinarySearch(t.room, e.Name); !ok {
		t.room = slices.Insert(t.room, i, e.Name)
	}
}

func (t *thing) dropMember(e api.Effect) {
	i, _ := slices.BinarySearch(t.room, e.Name)
	t.room = slices.Delete(t.room, i, i+1)
}

// ahead orders ranks by rising Score, those of one Score by rising Name.
func ahead(a, b api.Rank) int {
	return cmp.Or(cmp.Compare(a.Score, b.Score), strings.Compare(a.Name, b.Name))
}

func (t *thing) roomRank(e api.Effect) api.Errno {
	_, ok := t.scores[e.Name]
	return full(ok, len(t.ranks))
}

func (t *thing) hasRank(e api.Effect) api.Errno {
	_, ok := t.scores[e.Name]
	return wanted(ok)
}

func (t *thing) putRank(e api.Effect) {
	if _, ok := t.scores[e.Name]; ok {
		t.dropRank(e)
	}
	if t.scores == nil {
		t.scores = map[string]int64{}
	}
	m := api.Rank{Name: e.Name, Score: e.Int}
	i, _ := slices.BinarySearchFunc(t.ranks, m, ahead)
	t.ranks = slices.Insert(t.ranks, i, m)
	t.scores[e.Name] = e.Int
}

func (t *thing) dropRank(e api.Effect) {
	i, _ := slices.BinarySearchFunc(t.ranks, api.Rank{Name: e.Name, Score: t.scores[e.Name]}, ahead)
	t.ranks = slices.Delete(t.ranks, i, i+1)
	delete(t.scores, e.Name)
}

// short tells whether all texts are short enough.
func short(texts ...string) bool {
	return !slices.ContainsFunc(texts, func(s string) bool { return len(s) > api.MaxText })
}

// rising tells whether each item stands behind the one ahead of it.
func rising[T any](l []T, order func(a, b T) int) bool {
	for i := 1; i < len(l); i++ {
		if order(l[i-1], l[i]) >= 0 {
			return false
		}
	}
	return true
}

// counted tells whether there are so many items as a thing may have.
func counted(n int) bool { return n > 0 && n <= api.MaxItems }

// Check tells whether a thing may be.
func Check(t api.Thing) bool {
	if !t.HasUntil && t.Until != 0 || t.Kind != api.ThingText && t.Text != "" || t.Kind != api.ThingHash && len(t.Pairs) > 0 ||
		t.Kind != api.ThingRanks && len(t.Ranks) > 0 || t.Kind != api.ThingList && t.Kind != api.ThingSet && len(t.List) > 0 {
		return false
	}
	switch t.Kind {
	case api.ThingText:
		return short(t.Text)
	case api.ThingHash:
		byName := func(a, b api.Pair) int { return strings.Compare(a.Name, b.Name) }
		long := func(p api.Pair) bool { return !short(p.Name, p.Text) }
		return counted(len(t.Pairs)) && rising(t.Pairs, byName) && !slices.ContainsFunc(t.Pairs, long)
	case api.ThingList:
		return counted(len(t.List)) && short(t.List...)
	case api.ThingSet:
		return counted(len(t.List)) && rising(t.List, strings.Compare) && short(t.List...)
	case api.ThingRanks:
		return counted(len(t.Ranks)) && rising(t.Ranks, ahead) && unlike(t.Ranks)
	}
	return false
}

// unlike tells whether all names are short enough, none there twice.
func unlike(l []api.Rank) bool {
	seen := map[string]struct{}{}
	for _, m := range l {
		if _, twice := seen[m.Name]; twice || !short(m.Name) {
			return false
		}
		seen[m.Name] = struct{}{}
	}
	return true
}

// SameThing tells whether two things are the same, part by part.
func SameThing(a, b api.Thing) bool {
	return a.Kind == b.Kind && a.Text == b.Text && a.HasUntil == b.HasUntil && a.Until == b.Until &&
		slices.Equal(a.Pairs, b.Pairs) && slices.Equal(a.List, b.List) && slices.Equal(a.Ranks, b.Ranks)
}
