package syntax

import (
	"tabor/api"
	"tabor/words"
)

// overlong is a text that has grown too long.
type overlong struct{}

// printer tells trees as words; size is the least that they need.
type printer struct {
	words []api.Word
	size  int
}

// Print tells a tree as a text.
func Print(n api.Node) (s string, e api.Errno) {
	if e := Check(n); e != api.OK {
		return "", e
	}
	defer func() {
		switch x := recover().(type) {
		case nil:
		case overlong:
			s, e = "", api.ErrLong
		default:
			panic(x)
		}
	}()
	p := &printer{}
	p.block(n)
	return words.Print(p.words...)
}

// add adds a word. Of a tree of any size no more words are kept than a text may have.
func (p *printer) add(w api.Word) {
	p.words = append(p.words, w)
	p.size += 2 + len(w.Text)
	if p.size > 4*api.MaxText {
		panic(overlong{})
	}
}

// signs adds signs.
func (p *printer) signs(l ...string) {
	for _, s := range l {
		p.add(api.Word{Kind: api.WordSign, Text: s})
	}
}

// key adds a word of the language.
func (p *printer) key(s string) { p.add(api.Word{Kind: api.WordKey, Text: s}) }

// name adds a name.
func (p *printer) name(s string) { p.add(api.Word{Kind: api.WordName, Text: s}) }

// names adds names with commas between.
func (p *printer) names(l []string) {
	for i, s := range l {
		if i > 0 {
			p.signs(",")
		}
		p.name(s)
	}
}

// block adds statements.
func (p *printer) block(n api.Node) {
	for _, k := range n.Kids {
		p.statement(k)
		p.signs(";")
	}
}

// closed adds a block between two words.
func (p *printer) closed(from string, n api.Node) {
	p.key(from)
	p.block(n)
	p.key("end")
}

// statement adds a statement.
func (p *printer) statement(n api.Node) {
	switch n.Kind {
	case api.NodeLocal:
		p.key("local")
		p.names(n.Names)
		if len(n.Kids) > 0 {
			p.signs("=")
			p.values(n.Kids)
		}
	case api.NodeAssign:
		p.value(n.Kids[0])
		p.signs("=")
		p.value(n.Kids[1])
	case api.NodeCall:
		p.value(n)
	case api.NodeDo:
		p.closed("do", n.Kids[0])
	case api.NodeIf:
		p.choice(n)
	case api.NodeWhile:
		p.key("while")
		p.value(n.Kids[0])
		p.closed("do", n.Kids[1])
	case api.NodeFor:
		p.key("for")
		p.names(n.Names)
		p.signs("=")
		p.values(n.Kids[:len(n.Kids)-1])
		p.closed("do", n.Kids[len(n.Kids)-1])
	case api.NodeReturn:
		p.key("return")
		p.values(n.Kids)
	case api.NodeBreak:
		p.key("break")
	case api.NodeFunc:
		p.key("local")
		p.key("function")
		p.name(n.Name)
		p.signs("(")
		p.names(n.Names)
		p.signs(")")
		p.block(n.Kids[0])
		p.key("end")
	}
}

// choice adds an if.
func (p *printer) choice(n api.Node) {
	word := "if"
	for i := 0; i+1 < len(n.Kids); i += 2 {
		p.key(word)
		p.value(n.Kids[i])
		p.key("then")
		p.block(n.Kids[i+1])
		word = "elseif"
	}
	if len(n.Kids)%2 != 0 {
		p.key("else")
		p.block(n.Kids[len(n.Kids)-1])
	}
	p.key("end")
}

// values adds expressions with commas between.
func (p *printer) values(l []api.Node) {
	for i, n := range l {
		if i > 0 {
			p.signs(",")
		}
		p.value(n)
	}
}

// value adds an expression.
func (p *printer) value(n api.Node) {
	switch n.Kind {
	case api.NodeNil:
		p.key("nil")
	case api.NodeTrue:
		p.key("true")
	case api.NodeFalse:
		p.key("false")
	case api.NodeInt:
		p.add(api.Word{Kind: api.WordInt, Int: n.Int})
	case api.NodeText:
		p.add(api.Word{Kind: api.WordText, Text: n.Text})
	case api.NodeName:
		p.name(n.Name)
	case api.NodeIndex:
		base := n.Kids[0].Kind
		p.enclosed(n.Kids[0], base != api.NodeName && base != api.NodeCall && base != api.NodeIndex)
		p.signs("[")
		p.value(n.Kids[1])
		p.signs("]")
	case api.NodeCall:
		p.name(n.Name)
		p.signs("(")
		p.values(n.Kids)
		p.signs(")")
	case api.NodeTable:
		p.table(n)
	case api.NodeBin:
		p.operand(n.Kids[0])
		if n.Name == "and" || n.Name == "or" {
			p.key(n.Name)
		} else {
			p.signs(n.Name)
		}
		p.operand(n.Kids[1])
	case api.NodeNot:
		p.key("not")
		p.operand(n.Kids[0])
	case api.NodeNeg:
		p.signs("-")
		p.operand(n.Kids[0])
	case api.NodeLen:
		p.signs("#")
		p.operand(n.Kids[0])
	}
}

// operand adds what an operator is asked of.
func (p *printer) operand(n api.Node) {
	p.enclosed(n, n.Kind == api.NodeBin || n.Kind == api.NodeNot || n.Kind == api.NodeNeg || n.Kind == api.NodeLen)
}

// enclosed adds an expression, in brackets or not.
func (p *printer) enclosed(n api.Node, brackets bool) {
	if !brackets {
		p.value(n)
		return
	}
	p.signs("(")
	p.value(n)
	p.signs(")")
}

// table adds a table.
func (p *printer) table(n api.Node) {
	p.signs("{")
	for i, k := range n.Kids {
		if i > 0 {
			p.signs(",")
		}
		if k.Kind == api.NodePair {
			p.signs("[")
			p.value(k.Kids[0])
			p.signs("]", "=")
		}
		p.value(k.Kids[len(k.Kids)-1])
	}
	p.signs("}")
}
