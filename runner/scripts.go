package runner

import (
	"tabor/api"
	"tabor/basics"
	"tabor/cache"
	"tabor/compile"
	"tabor/machine"
)

// fine is the reply OK.
func fine() api.Reply { return api.Reply{Kind: api.ReplyStatus, Text: "OK"} }

// count is a number's reply.
func count(n int64) api.Reply { return api.Reply{Kind: api.ReplyInt, Int: n} }

// told is a text's reply.
func told(s string) api.Reply { return api.Reply{Kind: api.ReplyText, Text: s} }

// operands tells the keys and arguments that stand behind a script.
func (q *request) operands() (keys, args []string) {
	q.expect(3, api.MaxItems)
	n, ok := basics.Number(q.args[2])
	if !ok {
		panic(failed{errNumber})
	}
	rest := q.args[3:]
	if n < 0 || n > int64(len(rest)) {
		panic(failed{errRange})
	}
	return rest[:n], rest[n:]
}

// compiled tells a script's program.
func compiled(script string) api.Program {
	p, _, e := compile.Text(script)
	if e != api.OK {
		panic(failed{errCompile})
	}
	return p
}

// run does a script.
func (q *request) run(script string, keys, args []string) api.Reply {
	p := compiled(script)
	b := q.r.bounds
	in := api.Running{Keys: keys, Args: args, Now: q.now, Fuel: b.Fuel, Cells: b.Cells, Depth: b.Depth}
	ran, e := machine.Run(q.r.keys, p, in)
	if e != api.OK {
		panic(failed{errLong})
	}
	q.effects(ran.Effects)
	return ran.Reply
}

func (q *request) eval() api.Reply {
	keys, args := q.operands()
	return q.run(q.args[1], keys, args)
}

func (q *request) evalDigest() api.Reply {
	keys, args := q.operands()
	script, ok := q.r.cache.Get(q.args[1])
	if !ok {
		panic(failed{errScript})
	}
	return q.run(script, keys, args)
}

func (q *request) evalNamed() api.Reply {
	keys, args := q.operands()
	script, ok := q.r.cache.Named(q.args[1])
	if !ok {
		panic(failed{errFunction})
	}
	return q.run(script, keys, args)
}

func (q *request) put() api.Reply {
	q.expect(3, 3)
	script := q.args[2]
	compiled(script)
	// What its digest is tells a cache of its own: only then it is known whether it was there.
	digest, _ := cache.New().Put(script)
	was, there := q.r.cache.Get(digest)
	if _, e := q.r.cache.Put(script); e != api.OK {
		panic(failed{errFull})
	}
	if !there || was != script {
		q.note(wordPut, script)
	}
	return told(digest)
}

func (q *request) exist() api.Reply {
	q.expect(3, api.MaxItems)
	r := api.Reply{Kind: api.ReplyList}
	for _, digest := range q.args[2:] {
		n := int64(0)
		if _, ok := q.r.cache.Get(digest); ok {
			n = 1
		}
		r.List = append(r.List, count(n))
	}
	return r
}

func (q *request) flush() api.Reply {
	q.expect(2, 2)
	for range q.r.cache.All() {
		q.note(wordFlush)
		break
	}
	q.r.cache.Flush()
	return fine()
}

// name tells the name of a named script.
func (q *request) name() string {
	if !cache.Name(q.args[2]) {
		panic(failed{errName})
	}
	return q.args[2]
}

func (q *request) load() api.Reply {
	q.expect(4, 4)
	name, script := q.name(), q.args[3]
	compiled(script)
	was, there := q.r.cache.Named(name)
	if q.r.cache.Load(name, script) != api.OK {
		panic(failed{errFull})
	}
	if !there || was != script {
		q.note(wordLoad, name, script)
	}
	return fine()
}

func (q *request) unload() api.Reply {
	q.expect(3, 3)
	name := q.name()
	if q.r.cache.Unload(name) != api.OK {
		return count(0)
	}
	q.note(wordUnload, name)
	return count(1)
}

func (q *request) list() api.Reply {
	q.expect(2, 2)
	r := api.Reply{Kind: api.ReplyList}
	for _, name := range q.r.cache.Names() {
		r.List = append(r.List, told(name))
	}
	return r
}
