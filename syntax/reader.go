package syntax

import (
	"strings"

	"tabor/api"
)

// reader reads words from the front.
type reader struct {
	words []api.Word
	next  int
	size  int // how many bytes the text has
	open  int // how many brackets and blocks are open
	deep  bool
	bonds []map[string]struct{}
}

// part is a tree that was read, and how deep it is.
type part struct {
	api.Node
	depth int
}

// leaf is a part without kids.
func leaf(n api.Node) part { return part{n, 1} }

// over sets a node over its kids. A tree that is too deep is told at the end; till then it is kept flat.
func (r *reader) over(n api.Node, kids ...part) part {
	depth := 0
	for _, k := range kids {
		depth = max(depth, k.depth)
	}
	if depth >= api.MaxDepth {
		r.deep = true
		return leaf(api.Node{Kind: n.Kind})
	}
	for _, k := range kids {
		n.Kids = append(n.Kids, k.Node)
	}
	return part{n, depth + 1}
}

// peek tells the next word; at the end one that is none.
func (r *reader) peek() api.Word {
	if r.next == len(r.words) {
		return api.Word{Kind: -1, At: r.size}
	}
	return r.words[r.next]
}

// place tells where the next word begins.
func (r *reader) place() int { return r.peek().At }

// is tells whether the next word is this sign, or this word of the language.
func (r *reader) is(s string) bool {
	w := r.peek()
	return (w.Kind == api.WordSign || w.Kind == api.WordKey) && w.Text == s
}

// skip takes the next word, if it is this one.
func (r *reader) skip(s string) bool {
	ok := r.is(s)
	if ok {
		r.next++
	}
	return ok
}

// expect takes the next word, which must be this one.
func (r *reader) expect(s string) {
	if !r.skip(s) {
		panic(misplaced{r.place()})
	}
}

// opens takes a word that opens a bracket or a block.
func (r *reader) opens(s string) {
	at := r.place()
	r.expect(s)
	if r.open == api.MaxDepth {
		panic(crowded{at})
	}
	r.open++
}

// closes takes the word that closes a bracket or a block.
func (r *reader) closes(s string) {
	r.expect(s)
	r.open--
}

// name takes a name.
func (r *reader) name() string {
	w := r.peek()
	if w.Kind != api.WordName {
		panic(misplaced{w.At})
	}
	r.next++
	return strings.Clone(w.Text)
}

// names takes names with commas between.
func (r *reader) names() []string {
	l := []string{r.name()}
	for r.skip(",") {
		l = append(l, r.name())
	}
	return l
}

// ends tells whether a block is over.
func (r *reader) ends() bool {
	return r.next == len(r.words) || r.is("end") || r.is("else") || r.is("elseif")
}

// block takes statements.
func (r *reader) block() part {
	var kids []part
	for !r.ends() {
		s := r.statement()
		kids = append(kids, s)
		r.skip(";")
		if s.Kind == api.NodeReturn || s.Kind == api.NodeBreak {
			break
		}
	}
	return r.over(api.Node{Kind: api.NodeBlock}, kids...)
}

// inner takes a block between two words.
func (r *reader) inner(from, to string) part {
	r.opens(from)
	b := r.block()
	r.closes(to)
	return b
}

// statement takes a statement.
func (r *reader) statement() part {
	w := r.peek()
	if w.Kind != api.WordKey {
		return r.simple()
	}
	switch w.Text {
	case "local":
		r.next++
		if r.skip("function") {
			return r.function()
		}
		return r.local()
	case "do":
		return r.over(api.Node{Kind: api.NodeDo}, r.inner("do", "end"))
	case "if":
		return r.choice()
	case "while":
		r.next++
		condition := r.value()
		return r.over(api.Node{Kind: api.NodeWhile}, condition, r.inner("do", "end"))
	case "for":
		return r.loop()
	case "return":
		r.next++
		n := api.Node{Kind: api.NodeReturn}
		if r.ends() || r.is(";") {
			return leaf(n)
		}
		return r.over(n, r.value())
	case "break":
		r.next++
		return leaf(api.Node{Kind: api.NodeBreak})
	}
	panic(misplaced{w.At})
}

// simple takes an assignment or a call.
func (r *reader) simple() part {
	at := r.place()
	if r.peek().Kind != api.WordName && !r.is("(") {
		panic(misplaced{at})
	}
	left := r.indexed()
	if !r.is("=") {
		if left.Kind != api.NodeCall {
			panic(misplaced{at})
		}
		return left
	}
	if left.Kind != api.NodeName && left.Kind != api.NodeIndex {
		panic(misplaced{at})
	}
	r.next++
	return r.over(api.Node{Kind: api.NodeAssign}, left, r.value())
}

// local takes what stands behind local.
func (r *reader) local() part {
	n := api.Node{Kind: api.NodeLocal, Names: r.names()}
	if !r.skip("=") {
		return leaf(n)
	}
	at := r.place()
	kids := r.values()
	if len(kids) > len(n.Names) {
		panic(misplaced{at})
	}
	return r.over(n, kids...)
}

// function takes what stands behind local function.
func (r *reader) function() part {
	n := api.Node{Kind: api.NodeFunc, Name: r.name()}
	r.expect("(")
	if !r.is(")") {
		n.Names = r.names()
	}
	return r.over(n, r.inner(")", "end"))
}

// choice takes an if.
func (r *reader) choice() part {
	var kids []part
	r.expect("if")
	for more := true; more; more = r.skip("elseif") {
		kids = append(kids, r.value())
		r.opens("then")
		kids = append(kids, r.block())
		r.open--
	}
	if r.is("else") {
		kids = append(kids, r.inner("else", "end"))
	} else {
		r.expect("end")
	}
	return r.over(api.Node{Kind: api.NodeIf}, kids...)
}

// loop takes a for.
func (r *reader) loop() part {
	r.expect("for")
	n := api.Node{Kind: api.NodeFor, Names: []string{r.name()}}
	r.expect("=")
	kids := []part{r.value()}
	r.expect(",")
	kids = append(kids, r.value())
	if r.skip(",") {
		kids = append(kids, r.value())
	}
	return r.over(n, append(kids, r.inner("do", "end"))...)
}
