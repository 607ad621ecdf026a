package basics

import (
	"math"
	"strconv"

	"tabor/api"
)

// commands makes the table of commands.
func commands() map[string]func(a *asked) api.Reply {
	return map[string]func(a *asked) api.Reply{
		"SET":      set,
		"GET":      get,
		"DEL":      del,
		"EXISTS":   exists,
		"TYPE":     kind,
		"INCRBY":   func(a *asked) api.Reply { next := a.taker(2, 2); return a.reckon(next(), number(next())) },
		"INCR":     func(a *asked) api.Reply { return a.reckon(a.taker(1, 1)(), 1) },
		"DECR":     func(a *asked) api.Reply { return a.reckon(a.taker(1, 1)(), -1) },
		"APPEND":   lengthen,
		"STRLEN":   length,
		"MGET":     getMany,
		"MSET":     setMany,
		"PEXPIRE":  expire,
		"PERSIST":  persist,
		"PTTL":     left,
		"KEYS":     names,
		"DBSIZE":   size,
		"FLUSHALL": flush,
	}
}

func set(a *asked) api.Reply {
	next := a.taker(2, 4)
	key, text := next(), next()
	switch {
	case len(a.args) == 3:
		if next() != "NX" {
			panic(failed{errArgs})
		}
		if _, ok := a.k.Get(key, a.now); ok {
			return api.Reply{}
		}
	case len(a.args) == 4:
		if next() != "PX" {
			panic(failed{errArgs})
		}
		n := number(next())
		if n < 1 {
			panic(failed{errRange})
		}
		until := sum(a.now, n)
		a.lay(key, text)
		a.add(api.Effect{Op: api.EffUntil, Key: key, Int: until})
		return fine()
	}
	a.lay(key, text)
	return fine()
}

func get(a *asked) api.Reply {
	t, ok := a.text(a.taker(1, 1)())
	if !ok {
		return api.Reply{}
	}
	return told(t.Text)
}

func del(a *asked) api.Reply {
	a.taker(1, math.MaxInt)
	seen := map[string]int{}
	for _, key := range a.args {
		_, ok := a.k.Get(key, a.now)
		if ok && seen[key] == 0 {
			seen[key]++
			a.add(api.Effect{Op: api.EffDrop, Key: key})
		}
	}
	return count(int64(len(a.effects)))
}

func exists(a *asked) api.Reply {
	a.taker(1, math.MaxInt)
	n := int64(0)
	for _, key := range a.args {
		if _, ok := a.k.Get(key, a.now); ok {
			n++
		}
	}
	return count(n)
}

func kind(a *asked) api.Reply {
	t, _ := a.k.Get(a.taker(1, 1)(), a.now)
	words := [6]string{"none", "string", "hash", "list", "set", "zset"}
	return api.Reply{Kind: api.ReplyStatus, Text: words[t.Kind]}
}

// reckon adds to the number under a key.
func (a *asked) reckon(key string, by int64) api.Reply {
	was, ok := a.text(key)
	n := int64(0)
	if ok {
		n = number(was.Text)
	}
	n = sum(n, by)
	a.relay(key, strconv.FormatInt(n, 10), was)
	return count(n)
}

func lengthen(a *asked) api.Reply {
	next := a.taker(2, 2)
	key := next()
	was, _ := a.text(key)
	text := was.Text + next()
	a.relay(key, text, was)
	return count(int64(len(text)))
}

func length(a *asked) api.Reply {
	t, _ := a.text(a.taker(1, 1)())
	return count(int64(len(t.Text)))
}

func getMany(a *asked) api.Reply {
	a.taker(1, math.MaxInt)
	r := api.Reply{Kind: api.ReplyList}
	for _, key := range a.args {
		x := api.Reply{}
		if t, _ := a.k.Get(key, a.now); t.Kind == api.ThingText {
			x = told(t.Text)
		}
		r.List = append(r.List, x)
	}
	return r
}

func setMany(a *asked) api.Reply {
	next := a.taker(2, math.MaxInt)
	if len(a.args)%2 != 0 {
		panic(failed{errArgs})
	}
	for range len(a.args) / 2 {
		key := next()
		a.lay(key, next())
	}
	return fine()
}

func expire(a *asked) api.Reply {
	next := a.taker(2, 2)
	key, n := next(), number(next())
	if _, ok := a.k.Get(key, a.now); !ok {
		return count(0)
	}
	if n < 1 {
		a.add(api.Effect{Op: api.EffDrop, Key: key})
	} else {
		a.add(api.Effect{Op: api.EffUntil, Key: key, Int: sum(a.now, n)})
	}
	return count(1)
}

func persist(a *asked) api.Reply {
	key := a.taker(1, 1)()
	if t, _ := a.k.Get(key, a.now); !t.HasUntil {
		return count(0)
	}
	a.add(api.Effect{Op: api.EffKeep, Key: key})
	return count(1)
}

func left(a *asked) api.Reply {
	t, ok := a.k.Get(a.taker(1, 1)(), a.now)
	switch {
	case !ok:
		return count(-2)
	case !t.HasUntil:
		return count(-1)
	}
	// What is not gone has its time ahead: only a clock below 0 can bring this over.
	if t.Until-a.now < 0 {
		panic(failed{errOver})
	}
	return count(t.Until - a.now)
}

func names(a *asked) api.Reply {
	a.taker(0, 0)
	r := api.Reply{Kind: api.ReplyList}
	for _, name := range a.k.Names(a.now) {
		r.List = append(r.List, told(name))
	}
	return r
}

func size(a *asked) api.Reply {
	a.taker(0, 0)
	return count(int64(a.k.Size(a.now)))
}

func flush(a *asked) api.Reply {
	a.taker(0, 0)
	for key := range a.k.All() {
		a.add(api.Effect{Op: api.EffDrop, Key: key})
	}
	return fine()
}
