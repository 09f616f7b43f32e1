// Package tree: programs of the small language as trees, in which names are found: what packages lang and gen have in common.
package tree

import "oocore/api"

// maxText is how many bytes a text may have.
const maxText = 8000

// Node is a part of a program: one of the types below, told apart by a type switch.
type Node interface {
	Line() int
}

// at is where a node stands: it is that part of every one that makes it a Node.
type at struct {
	line int
}

// Line is where the node begins; of an operation where its sign stands.
func (a at) Line() int { return a.line }

// Program has its declarations in the order of the text.
type Program struct {
	Declarations []Node // *Var or *Func
	Main         *Func
	Words        int // global words
}

// Var is a word or, if Size is not 0, an array of so many; First is the number of its first global word.
type Var struct {
	at
	Name        string
	Size, First int
}

// Func has numbered locals: its parameters, then its lets in the order of the text.
type Func struct {
	at
	Name       string
	Parameters []string
	Body       *Block
	Locals     int
}

// Place is where a value is kept: the local, or the global word, of that number.
type Place struct {
	Local  bool
	Number int
}

// The statements. Else may be nil.
type (
	Block struct {
		at
		Statements []Node
	}
	Let struct {
		at
		Name  string
		To    Place
		Value Node
	}
	Set struct {
		at
		Name  string
		To    Place
		Value Node
	}
	Put struct {
		at
		Name         string
		Of           *Var
		Index, Value Node
	}
	Do struct {
		at
		Call *Call
	}
	If struct {
		at
		Asked      Node
		Then, Else *Block
	}
	While struct {
		at
		Asked Node
		Body  *Block
	}
	Return struct {
		at
		Value Node
	}
	Print struct {
		at
		Value Node
	}
)

// The parts of expressions.
type (
	Number struct {
		at
		Value uint32
	}
	Name struct {
		at
		Name string
		From Place
	}
	Index struct {
		at
		Name  string
		Of    *Var
		Index Node
	}
	Call struct {
		at
		Name      string
		Of        *Func
		Arguments []Node
	}
	One struct {
		at
		Sign string
		Of   Node
	}
	Two struct {
		at
		Sign          string
		First, Second Node
	}
)

// fault is the first thing that is wrong with a text: what reads it throws one.
type fault struct {
	line int
	err  api.Errno
}

func throw(line int, err api.Errno) {
	panic(fault{line, err})
}

// Read makes a tree of a text; with an error the line of the first fault (0: it has none).
func Read(text string) (p *Program, line int, err error) {
	if len(text) > maxText {
		return nil, 0, api.ErrImage
	}
	defer func() {
		if thrown := recover(); thrown != nil {
			f := thrown.(fault)
			p, line, err = nil, f.line, f.err
		}
	}()
	r := reader{tokens: scan(text)}
	p = &Program{Declarations: r.declarations()}
	p.findNames()
	return p, 0, nil
}
