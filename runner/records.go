package runner

import (
	"tabor/api"
	"tabor/basics"
)

// broken is that a record is none, or can't be done.
type broken struct{}

// change is one thing that a record tells; whether it can be done it tells itself.
type change func(r *Runner) bool

// Replay does what a record tells: all of it, or nothing.
func (r *Runner) Replay(texts ...string) (e api.Errno) {
	if r.none() {
		return api.ErrNil
	}
	defer func() {
		switch x := recover().(type) {
		case nil:
		case broken:
			e = api.ErrRecord
		default:
			panic(x)
		}
	}()
	changes := read(texts)
	if len(changes) == 1 { // one change alone is done, or changes nothing
		must(changes[0](r))
		return api.OK
	}
	c := r.Copy()
	for _, do := range changes {
		must(do(c))
	}
	r.keys, r.cache = c.keys, c.cache
	return api.OK
}

// must gives up where something is not so.
func must(ok bool) {
	if !ok {
		panic(broken{})
	}
}

// read tells what a record tells.
func read(texts []string) []change {
	take := func() string {
		must(len(texts) > 0)
		s := texts[0]
		texts = texts[1:]
		return s
	}
	number := func() int64 {
		n, ok := basics.Number(take())
		must(ok)
		return n
	}
	var out []change
	for len(texts) > 0 {
		switch take() {
		case wordEffect:
			var e api.Effect
			e.Op = api.EffectOp(number())
			e.Key = take()
			e.Name = take()
			e.Text = take()
			e.Int = number()
			out = append(out, func(r *Runner) bool {
				_, why := r.keys.Apply(e)
				return why == api.OK
			})
		case wordPut:
			script := take()
			out = append(out, func(r *Runner) bool {
				_, why := r.cache.Put(script)
				return why == api.OK
			})
		case wordFlush:
			out = append(out, func(r *Runner) bool {
				r.cache.Flush()
				return true
			})
		case wordLoad:
			name := take()
			script := take()
			out = append(out, func(r *Runner) bool { return r.cache.Load(name, script) == api.OK })
		case wordUnload:
			name := take()
			out = append(out, func(r *Runner) bool { return r.cache.Unload(name) == api.OK })
		default:
			panic(broken{})
		}
	}
	return out
}

// Records tells records that make the runner anew.
func (r *Runner) Records() [][]string {
	if r.none() {
		return nil
	}
	var out [][]string
	for key, thing := range r.keys.All() {
		var made record
		made.effects(making(key, thing))
		out = append(out, made.texts)
	}
	for _, script := range r.cache.All() {
		out = append(out, []string{wordPut, script})
	}
	for _, name := range r.cache.Names() {
		script, _ := r.cache.Named(name)
		out = append(out, []string{wordLoad, name, script})
	}
	return out
}

// making tells the effects that make a thing.
func making(key string, t api.Thing) []api.Effect {
	var out []api.Effect
	add := func(op api.EffectOp, name, text string, n int64) {
		out = append(out, api.Effect{Op: op, Key: key, Name: name, Text: text, Int: n})
	}
	switch t.Kind {
	case api.ThingText:
		add(api.EffText, "", t.Text, 0)
	case api.ThingHash:
		for _, p := range t.Pairs {
			add(api.EffHash, p.Name, p.Text, 0)
		}
	case api.ThingList:
		for _, s := range t.List {
			add(api.EffTail, "", s, 0)
		}
	case api.ThingSet:
		for _, s := range t.List {
			add(api.EffAdd, s, "", 0)
		}
	case api.ThingRanks:
		for _, m := range t.Ranks {
			add(api.EffRank, m.Name, "", m.Score)
		}
	}
	if t.HasUntil {
		add(api.EffUntil, "", "", t.Until)
	}
	return out
}
