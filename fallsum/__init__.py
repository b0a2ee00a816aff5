"""Fallsum: loops that end by falling sums, or go on for ever."""
